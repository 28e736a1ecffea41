/- OptsCut. -/
import Derived.Test.YtnollgbfgkjmlaaObk
import Derived.Test.YtnollgbfgkjmlaaOct
namespace Go.Proofs.Ytnollgbfgkjmlaa
open Go.RowKit
set_option linter.unusedVariables false
set_option maxRecDepth 100000

theorem RdO.take {w : World} {A : Option Addr} {l : List Opt} (h : RdO w A l) (m : Nat) : RdO w A (l.take m) := fun i o hi => h i o (by
  rw [List.getElem?_take] at hi
  split at hi
  · exact hi
  · cases hi)
/-- How many bytes the first options have. -/
def fl (L : List (Nat × List UInt8)) (n : Nat) : Nat := (flatP (L.take n)).length
theorem fl_succ {L : List (Nat × List UInt8)} {n : Nat} {p : Nat × List UInt8} (h : L[n]? = some p) : fl L (n + 1) = fl L n + (optP p).length := by
  unfold fl; rw [flatP_take_succ h, List.length_append]
theorem fl_all {L : List (Nat × List UInt8)} {n : Nat} (h : L.length ≤ n) : fl L n = (flatP L).length := by unfold fl; rw [List.take_of_length_le h]
theorem fl_zero (L : List (Nat × List UInt8)) : fl L 0 = 0 := rfl
/-- Where the walk over the options stops. -/
theorem fl_stop {L : List (Nat × List UInt8)} {k : Nat} (hk : k ≤ (flatP L).length) : ∃ n1, n1 ≤ L.length ∧ (∀ n, n < n1 → fl L n < k) ∧ k ≤ fl L n1 := by
  have : ∀ m, m ≤ L.length → (∀ n, n < m → fl L n < k) → ∃ n1, n1 ≤ L.length ∧ (∀ n, n < n1 → fl L n < k) ∧ k ≤ fl L n1 := by
    intro m
    induction h : L.length - m generalizing m with
    | zero =>
      intro hm hall
      exact ⟨m, hm, hall, by rw [fl_all (by omega)]; exact hk⟩
    | succ d ih =>
      intro hm hall
      by_cases hc : k ≤ fl L m
      · exact ⟨m, hm, hall, hc⟩
      · exact ih (m + 1) (by omega) (by omega) (fun n hn => by
          rcases Nat.lt_or_ge n m with h1 | h1
          · exact hall n h1
          · obtain rfl : n = m := by omega
            omega)
  exact this 0 (Nat.zero_le _) (fun n hn => by omega)
set_option maxHeartbeats 8000000 in
theorem optsCut_any (A : Option Addr) (n c : Nat) (l : List SmO) (at' : Nat) (w : World) (hl : l.length = n) (hnc : n ≤ c) (hrd : RdSm w A l) (hat : at' < 256) :
    Calls Try.prog 6 #[.slice A n c, .int .u8 at'] w fun e w' => e = .returned (.bool true) ∧ Fr [] w w' := by
  have cA := awake6 w
  have cM := fun W (hW : Fr [] w W) => made_any A n c l W hl hnc (hrd.fr hW)
  have CM := Lib.hid cM
  clear hrd hl cM
  go_enter Try.func6, Try.ntmps6
  go_wp2_with fail
  refine cA.mono ?_
  rintro e wa ⟨rfl, hFa⟩
  clear cA
  go_wp2_with fail
  refine (CM.out _ hFa).mono ?_
  rintro e w1 ⟨os, A1, c1, rfl, ho1, hO1, hm1, hF1⟩
  have hc1 := (own_cap ho1).1
  have hI := mkAll_inv (l.take 40)
  generalize mkAll (l.take 40) = st at hm1 hI ⊢
  obtain ⟨L, N, ms⟩ := st
  simp only at hm1 hI ⊢
  have hN : N = (flatP L).length := hI.n
  have h40 : (flatP L).length ≤ 40 := by rw [← hN]; exact hI.le
  have hok := hI.ok
  have htw := hI.tw
  simp only at hok htw
  have hol : os.length ≤ 40 := by have := flatP_len L; rw [← hm1, List.length_map] at this; rw [hm1] at this; omega
  have hRO := hO1.rd ho1
  have cW := write_good A1 os.length c1 os L w1 rfl hRO (by omega) hm1 hok htw h40 hRO.len
  obtain ⟨p4, pN, pN4⟩ := pad4_mod (flatP L)
  have hp40 := pad4_le h40
  have hz0 := pad4_zero (flatP L)
  obtain ⟨P, hP⟩ : ∃ P, P = pad4 (flatP L) := ⟨_, rfl⟩
  rw [← hP] at cW p4 pN pN4 hp40 hz0
  rw [← hN] at pN pN4 hz0
  obtain ⟨p, hp⟩ : ∃ p, p = P.length := ⟨_, rfl⟩
  rw [← hp] at cW p4 pN pN4 hp40 hz0
  have CW := Lib.hid cW
  have HP := Lib.hid hp
  have HZ0 := Lib.hid hz0
  have HOK := Lib.hid hok
  have HTW := Lib.hid htw
  have HFL := Lib.hid hN
  have H40 := Lib.hid h40
  have HPP := Lib.hid hP
  have HM1 := Lib.hid hm1
  have HRO := Lib.hid hRO
  have HF1 := Lib.hid (hFa.trans hF1)
  clear cW hp hz0 hok htw hm1 hRO hF1 hFa ho1 hO1 hI hN h40 hP CM
  go_wp2_with fail
  refine CW.out.mono ?_
  rintro e w2 ⟨A2, c2, rfl, o2, hF2⟩
  obtain ⟨hpc, hcm⟩ := own_cap o2
  obtain ⟨kk, hkk⟩ : ∃ kk, kk = at' % (N + 1) := ⟨_, rfl⟩
  have hkN : kk < N + 1 := by rw [hkk]; exact Nat.mod_lt _ (by omega)
  have m1 : (at' : Int) % ((N : Int) + 1) = (kk : Int) := by rw [hkk, show ((N : Int) + 1) = ((N + 1 : Nat) : Int) by omega, Int.natCast_emod]
  have m2 : Int.tmod (at' : Int) ((N : Int) + 1) = (kk : Int) := by rw [Int.tmod_eq_emod_of_nonneg (by omega)]; exact m1
  have m3 : (((N : Int) + 1) == 0) = false := by rw [beq_eq_false_iff_ne]; omega
  have m4 : ¬ ((N : Int) + 1) = 0 := by omega
  have hTk : P.take kk = (flatP L).take kk := by
    rw [HPP.out]; unfold pad4; rw [List.take_append_of_le_length (by rw [← HFL.out]; omega)]
  have cR := fun W (hW : Fr [] w2 W) => read_any A2 kk c2 (P.take kk) W (by rw [List.length_take, ← HP.out]; omega) (by have := (Rd.own (hW.own o2 (by simp))).take kk; rwa [B8_take] at this) (own_nil0 o2) (by omega) hcm
  rw [hTk] at cR
  obtain ⟨n1, hn1, hbel, hge⟩ := fl_stop (L := L) (k := kk) (by rw [← HFL.out]; omega)
  have hosl : os.length = L.length := by rw [← HM1.out, List.length_map]
  have ki : (0 : Int) ≤ (kk : Int) ∧ (kk : Int) ≤ (c2 : Int) := by omega
  have d1 : decide ((p : Int) < (N : Int)) = false := decide_eq_false (by omega)
  have d1' : decide (p < N) = false := decide_eq_false (by omega)
  have d4 : ¬ (p : Int) < (N : Int) := by omega
  have CR := Lib.hid cR
  have HTK := Lib.hid hTk
  have HBEL := Lib.hid hbel
  have HOSL := Lib.hid hosl
  have HF2 := Lib.hid (HF1.out.trans hF2)
  have HRO2 := Lib.hid (HRO.out.fr hF2)
  have HKK := Lib.hid hkk
  have hfl41 : ∀ j, fl L j ≤ 40 := fun j => by
    have := congrArg List.length (flatP_split L j); rw [List.length_append] at this; have := H40.out; unfold fl; omega
  have HFL41 := Lib.hid hfl41
  clear cR hTk hbel hosl hkk o2 hF2 CW HF1 HRO hfl41
  go_wp2_with fail
  refine (CR.out _ (Fr.refl _ _)).mono ?_
  clear CR m1 m2 m3 m4 d1 d1' d4
  rintro e w3 ⟨hF3, hres⟩
  by_cases hk : fl L n1 = kk
  · have hrc := cut_between H40.out HOK.out HTW.out (k := kk) (n := n1) hk
    obtain ⟨os3, A3, c3, rfl, hr3, hRO3'⟩ : ∃ (os3 : List Opt) (A3 : Option Addr) (c3 : Nat), e = .returned (.tuple #[.slice A3 os3.length c3, .int .i64 0]) ∧ os3.map pr = L.take n1 ∧ RdO w3 A3 os3 := by
      rcases hres with ⟨E, hE0, hr, _⟩ | ⟨os3, A3, c3, hr, he, ho3, hO3⟩
      · rw [hrc] at hr; injection hr with hr _; exact absurd hr.symm hE0
      · rw [hrc] at hr; injection hr with _ hr; exact ⟨os3, A3, c3, he, hr.symm, hO3.rd ho3⟩
    have HR3 := Lib.hid hr3
    have HRO33 := Lib.hid hRO3'
    clear hres hrc hr3 hRO3' 
    have HF3 := Lib.hid (HF2.out.trans hF3)
    have HRO3 := Lib.hid (HRO2.out.fr hF3)
    clear hF3 HF2 HRO2
    go_wp2_with fail
    go_loopw [12, 13] (fun s12 s13 wr => ∃ j : Nat, j ≤ n1 ∧ s12 = .int .i64 j ∧ s13 = .int .i64 (fl L j : Nat) ∧ Fr [] w3 wr) (fun s12 _ _ => n1 - (intOf s12).toNat)
    case atStart => exact ⟨0, Nat.zero_le _, rfl, rfl, Fr.refl _ _⟩
    case round =>
      obtain ⟨j, hj, rfl, rfl, hF⟩ := hrel
      have hj40 := HFL41.out j
      by_cases hlt : j < n1
      · have hjk := HBEL.out j hlt
        obtain ⟨o, ho⟩ : ∃ o, os[j]? = some o := ⟨_, List.getElem?_eq_getElem (by rw [HOSL.out]; omega)⟩
        obtain ⟨b, off, rfl, h1, h2, h3⟩ := (HRO3.out.fr hF) j o ho
        have hLj : L[j]? = some (pr o) := by rw [← HM1.out, List.getElem?_map, ho]; rfl
        have hsu := fl_succ hLj
        have hj41 := HFL41.out (j + 1)
        have hlti : (j : Int) < (os.length : Int) := by rw [HOSL.out]; omega
        have hltd : decide ((j : Int) < (os.length : Int)) = true := decide_eq_true hlti
        have hkd : decide ((fl L j : Int) < (kk : Int)) = true := decide_eq_true (by omega)
        have hki : (fl L j : Int) < (kk : Int) := by omega
        have i0 : (0 : Int) ≤ (j : Int) ∧ (j : Int) < (os.length : Int) := by omega
        have wk : IntKind.i64.wrap ((j : Int) + 1) = (j : Int) + 1 := IntWalk.i64_in _ (by omega)
        have wk2 : ((j : Int) + 1) = ((j + 1 : Nat) : Int) := by omega
        have we1 : IntKind.i64.wrap ((fl L j : Int) + 1) = (fl L j : Int) + 1 := IntWalk.i64_in _ (by omega)
        have WK := Lib.hid wk2
        have HF := Lib.hid hF
        by_cases hk1 : o.k = 1
        · have e1 : ((o.k : Int) != 1) = false := by rw [bne_eq_false_iff_eq]; omega
          have hop : (optP (pr o)).length = 1 := by unfold optP pr; rw [if_pos hk1]; rfl
          have HS := Lib.hid (show ((fl L j : Int) + 1) = ((fl L (j + 1) : Nat) : Int) by rw [hsu, hop]; omega)
          clear wk2 hF h3 h2 hop hsu hk1 ho hLj
          go_wp2_with fail
          exact ⟨⟨j + 1, by omega, by rw [WK.out], by rw [HS.out], HF.out⟩, by simp [intOf]; omega⟩
        · have e1 : ((o.k : Int) != 1) = true := by rw [bne_iff_ne]; omega
          have hop : (optP (pr o)).length = 2 + o.n := by unfold optP pr; rw [if_neg hk1]; simp; rw [h3.len]; omega
          have we2 : IntKind.i64.wrap (1 + (o.n : Int)) = 1 + (o.n : Int) := IntWalk.i64_in _ (by omega)
          have we3 : IntKind.i64.wrap ((fl L j : Int) + 1 + (1 + (o.n : Int))) = (fl L j : Int) + 1 + (1 + (o.n : Int)) := IntWalk.i64_in _ (by omega)
          have HS := Lib.hid (show ((fl L j : Int) + 1 + (1 + (o.n : Int))) = ((fl L (j + 1) : Nat) : Int) by rw [hsu, hop]; omega)
          have hon : o.n ≤ 40 := by omega
          clear wk2 hF h3 hop hsu hk1 ho hLj
          go_wp2_with fail
          exact ⟨⟨j + 1, by omega, by rw [WK.out], by rw [HS.out], HF.out⟩, by simp [intOf]; omega⟩
      · obtain rfl : j = n1 := by omega
        have HF := Lib.hid hF
        clear hF
        by_cases hjl : j < os.length
        · have hlti : (j : Int) < (os.length : Int) := by omega
          have hltd : decide ((j : Int) < (os.length : Int)) = true := decide_eq_true hlti
          have hkd : decide ((fl L j : Int) < (kk : Int)) = false := decide_eq_false (by omega)
          have hki : ¬ (fl L j : Int) < (kk : Int) := by omega
          have heq : ((fl L j : Int) == (kk : Int)) = true := by rw [beq_iff_eq]; omega
          have hj3 : os3.length ≤ 40 := by have := congrArg List.length HR3.out; rw [List.length_map, List.length_take] at this; have := HOSL.out; omega
          have cS := sameL_any A3 A1 os3.length j c3 c1 os3 (os.take j) wr rfl (by rw [List.length_take]; have := HOSL.out; omega) (HRO33.out.fr HF.out) ((HRO3.out.fr HF.out).take j) (by omega)
          rw [decide_eq_true (by rw [HR3.out, List.map_take, HM1.out])] at cS
          have hjc : (0 : Int) ≤ (j : Int) ∧ (j : Int) ≤ (c1 : Int) := by have := HOSL.out; omega
          have CS := Lib.hid cS
          have HFF := Lib.hid (HF3.out.trans HF.out)
          clear cS hk
          go_wp2_with fail
          refine CS.out.mono ?_
          rintro e w7 ⟨rfl, hF7⟩
          have HF7 := Lib.hid (HFF.out.trans hF7)
          clear hF7 CS
          go_wp2_with fail
          go_ret
          exact ⟨rfl, HF7.out⟩
        · have hlti : ¬ (j : Int) < (os.length : Int) := by omega
          have hltd : decide ((j : Int) < (os.length : Int)) = false := decide_eq_false hlti
          have heq : ((fl L j : Int) == (kk : Int)) = true := by rw [beq_iff_eq]; omega
          have hj3 : os3.length ≤ 40 := by have := congrArg List.length HR3.out; rw [List.length_map, List.length_take] at this; have := HOSL.out; omega
          have cS := sameL_any A3 A1 os3.length j c3 c1 os3 (os.take j) wr rfl (by rw [List.length_take]; have := HOSL.out; omega) (HRO33.out.fr HF.out) ((HRO3.out.fr HF.out).take j) (by omega)
          rw [decide_eq_true (by rw [HR3.out, List.map_take, HM1.out])] at cS
          have hjc : (0 : Int) ≤ (j : Int) ∧ (j : Int) ≤ (c1 : Int) := by have := HOSL.out; omega
          have CS := Lib.hid cS
          have HFF := Lib.hid (HF3.out.trans HF.out)
          clear cS hk
          go_wp2_with fail
          refine CS.out.mono ?_
          rintro e w7 ⟨rfl, hF7⟩
          have HF7 := Lib.hid (HFF.out.trans hF7)
          clear hF7 CS
          go_wp2_with fail
          go_ret
          exact ⟨rfl, HF7.out⟩
  · obtain ⟨m1, rfl⟩ : ∃ m1, n1 = m1 + 1 := by
      cases n1 with
      | zero => rw [fl_zero] at hge hk; omega
      | succ m1 => exact ⟨m1, rfl⟩
    obtain ⟨pp, hpp⟩ : ∃ pp, L[m1]? = some pp := ⟨_, List.getElem?_eq_getElem (by omega)⟩
    have hrc := cut_within H40.out HOK.out HTW.out (k := kk) hpp (HBEL.out m1 (by omega)) (by show kk < fl L (m1 + 1); omega)
    obtain rfl : e = .returned (.tuple #[.slice none 0 0, .int .i64 60]) := by
      rcases hres with ⟨E, hE0, hr, he⟩ | ⟨os3, A3, c3, hr, he, ho3, hO3⟩
      · rw [hrc] at hr; injection hr with hr _; rw [he, ← hr]; rfl
      · rw [hrc] at hr; injection hr with hr _; cases hr
    generalize m1 + 1 = n1 at *
    clear hres hrc hpp
    have HF3 := Lib.hid (HF2.out.trans hF3)
    have HRO3 := Lib.hid (HRO2.out.fr hF3)
    clear hF3 HF2 HRO2
    go_wp2_with fail
    go_loopw [12, 13] (fun s12 s13 wr => ∃ j : Nat, j ≤ n1 ∧ s12 = .int .i64 j ∧ s13 = .int .i64 (fl L j : Nat) ∧ Fr [] w3 wr) (fun s12 _ _ => n1 - (intOf s12).toNat)
    case atStart => exact ⟨0, Nat.zero_le _, rfl, rfl, Fr.refl _ _⟩
    case round =>
      obtain ⟨j, hj, rfl, rfl, hF⟩ := hrel
      have hj40 := HFL41.out j
      by_cases hlt : j < n1
      · have hjk := HBEL.out j hlt
        obtain ⟨o, ho⟩ : ∃ o, os[j]? = some o := ⟨_, List.getElem?_eq_getElem (by rw [HOSL.out]; omega)⟩
        obtain ⟨b, off, rfl, h1, h2, h3⟩ := (HRO3.out.fr hF) j o ho
        have hLj : L[j]? = some (pr o) := by rw [← HM1.out, List.getElem?_map, ho]; rfl
        have hsu := fl_succ hLj
        have hj41 := HFL41.out (j + 1)
        have hlti : (j : Int) < (os.length : Int) := by rw [HOSL.out]; omega
        have hltd : decide ((j : Int) < (os.length : Int)) = true := decide_eq_true hlti
        have hkd : decide ((fl L j : Int) < (kk : Int)) = true := decide_eq_true (by omega)
        have hki : (fl L j : Int) < (kk : Int) := by omega
        have i0 : (0 : Int) ≤ (j : Int) ∧ (j : Int) < (os.length : Int) := by omega
        have wk : IntKind.i64.wrap ((j : Int) + 1) = (j : Int) + 1 := IntWalk.i64_in _ (by omega)
        have wk2 : ((j : Int) + 1) = ((j + 1 : Nat) : Int) := by omega
        have we1 : IntKind.i64.wrap ((fl L j : Int) + 1) = (fl L j : Int) + 1 := IntWalk.i64_in _ (by omega)
        have WK := Lib.hid wk2
        have HF := Lib.hid hF
        by_cases hk1 : o.k = 1
        · have e1 : ((o.k : Int) != 1) = false := by rw [bne_eq_false_iff_eq]; omega
          have hop : (optP (pr o)).length = 1 := by unfold optP pr; rw [if_pos hk1]; rfl
          have HS := Lib.hid (show ((fl L j : Int) + 1) = ((fl L (j + 1) : Nat) : Int) by rw [hsu, hop]; omega)
          clear wk2 hF h3 h2 hop hsu hk1 ho hLj
          go_wp2_with fail
          exact ⟨⟨j + 1, by omega, by rw [WK.out], by rw [HS.out], HF.out⟩, by simp [intOf]; omega⟩
        · have e1 : ((o.k : Int) != 1) = true := by rw [bne_iff_ne]; omega
          have hop : (optP (pr o)).length = 2 + o.n := by unfold optP pr; rw [if_neg hk1]; simp; rw [h3.len]; omega
          have we2 : IntKind.i64.wrap (1 + (o.n : Int)) = 1 + (o.n : Int) := IntWalk.i64_in _ (by omega)
          have we3 : IntKind.i64.wrap ((fl L j : Int) + 1 + (1 + (o.n : Int))) = (fl L j : Int) + 1 + (1 + (o.n : Int)) := IntWalk.i64_in _ (by omega)
          have HS := Lib.hid (show ((fl L j : Int) + 1 + (1 + (o.n : Int))) = ((fl L (j + 1) : Nat) : Int) by rw [hsu, hop]; omega)
          have hon : o.n ≤ 40 := by omega
          clear wk2 hF h3 hop hsu hk1 ho hLj
          go_wp2_with fail
          exact ⟨⟨j + 1, by omega, by rw [WK.out], by rw [HS.out], HF.out⟩, by simp [intOf]; omega⟩
      · obtain rfl : j = n1 := by omega
        have HF := Lib.hid hF
        clear hF
        by_cases hjl : j < os.length
        · have hlti : (j : Int) < (os.length : Int) := by omega
          have hltd : decide ((j : Int) < (os.length : Int)) = true := decide_eq_true hlti
          have hkd : decide ((fl L j : Int) < (kk : Int)) = false := decide_eq_false (by omega)
          have hki : ¬ (fl L j : Int) < (kk : Int) := by omega
          have heq : ((fl L j : Int) == (kk : Int)) = false := by rw [beq_eq_false_iff_ne]; omega
          have HFF := Lib.hid (HF3.out.trans HF.out)
          clear hk
          go_wp2_with fail
          go_ret
          exact ⟨rfl, HFF.out⟩
        · have hlti : ¬ (j : Int) < (os.length : Int) := by omega
          have hltd : decide ((j : Int) < (os.length : Int)) = false := decide_eq_false hlti
          have heq : ((fl L j : Int) == (kk : Int)) = false := by rw [beq_eq_false_iff_ne]; omega
          have HFF := Lib.hid (HF3.out.trans HF.out)
          clear hk
          go_wp2_with fail
          go_ret
          exact ⟨rfl, HFF.out⟩
end Go.Proofs.Ytnollgbfgkjmlaa
