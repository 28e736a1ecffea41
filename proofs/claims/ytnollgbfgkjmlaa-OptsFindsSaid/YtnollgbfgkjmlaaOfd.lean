/- OptsFinds. -/
import Derived.Test.YtnollgbfgkjmlaaObk
import Derived.Test.YtnollgbfgkjmlaaOct
import Derived.Deep.RegionHeld
import Derived.Deep.RegionHeld3
import Derived.Deep.DeepCutAuto
namespace Go.Proofs.Ytnollgbfgkjmlaa
open Go.RowKit
set_option linter.unusedVariables false
set_option maxRecDepth 100000

/-- The first place from j on for which p holds. -/
def frm (l : List Opt) (p : Opt → Bool) (j : Nat) : Int := match (l.drop j).findIdx? p with
  | some t => ((j + t : Nat) : Int)
  | none => -1
theorem frm_end {l : List Opt} {p : Opt → Bool} {j : Nat} (h : l.length ≤ j) : frm l p j = -1 := by
  unfold frm; rw [List.drop_of_length_le h]; rfl
theorem frm_zero {l : List Opt} {p : Opt → Bool} : frm l p 0 = idxI l p := by
  unfold frm idxI
  rw [List.drop_zero]
  cases l.findIdx? p with
  | none => rfl
  | some t => simp
theorem frm_step {l : List Opt} {p : Opt → Bool} {j : Nat} {o : Opt} (h : l[j]? = some o) : frm l p j = if p o then (j : Int) else frm l p (j + 1) := by
  have hlt := (List.getElem?_eq_some_iff.1 h).1
  unfold frm
  rw [List.drop_eq_getElem_cons hlt, (List.getElem?_eq_some_iff.1 h).2, List.findIdx?_cons]
  cases p o with
  | true => simp
  | false =>
    simp only [Bool.false_eq_true, if_false]
    cases (l.drop (j + 1)).findIdx? p with
    | none => rfl
    | some t => simp; omega
/-- Find, whether there is one alone. -/
theorem find_b (A : Option Addr) (n c : Nat) (l : List Opt) (kd : Nat) (w : World) (hl : l.length = n) (hrd : RdO w A l) (hn : n ≤ 140737488351232) :
    Calls Try.prog 18 #[.slice A n c, .int .u8 kd] w fun e w' => (∃ (k : Nat) (A' : Option Addr) (m d : Nat), e = .returned (.tuple #[.agg #[.int .u8 k, .slice A' m d], .bool (l.any (fndB kd))])) ∧ Fr [] w w' := by
  refine (find_any A n c l kd w hl hrd hn).mono ?_
  rintro e w' ⟨hF, ⟨hi, rfl⟩ | ⟨i, o, A', c', hi, ho, rfl, _⟩⟩
  · have := idx_any (l := l) (p := fndB kd)
    rw [hi] at this
    rw [← this]
    exact ⟨⟨0, none, 0, 0, rfl⟩, hF⟩
  · have := idx_any (l := l) (p := fndB kd)
    rw [hi] at this
    rw [← this, decide_eq_true (by omega)]
    exact ⟨⟨kd, A', _, c', rfl⟩, hF⟩
theorem idx_hit {l : List Opt} {kd i : Nat} {o : Opt} (h : idxI l (fndB kd) = (i : Int)) (ho : l[i]? = some o) : o.k = kd := by
  unfold idxI at h
  cases h2 : l.findIdx? (fndB kd) with
  | none => rw [h2] at h; simp only at h; omega
  | some t =>
    rw [h2] at h
    simp only at h
    obtain rfl : t = i := by omega
    rw [List.findIdx?_eq_some_iff_getElem] at h2
    obtain ⟨hi, hp, _⟩ := h2
    rw [(List.getElem?_eq_some_iff.1 ho).2] at hp
    unfold fndB at hp
    have := beq_iff_eq.1 hp
    omega
/-- Routed just if one of two is found, and not both. -/
theorem routed_two {l : List Opt} (ht : twP [] (l.map pr) = false) : l.any rouB = (l.any (fndB 131) || l.any (fndB 137)) ∧ (l.any (fndB 131) && l.any (fndB 137)) = false := by
  constructor
  · clear ht
    induction l with
    | nil => rfl
    | cons a l ih =>
      simp only [List.any_cons, ih]
      have e : rouB a = (fndB 131 a || fndB 137 a) := rfl
      rw [e]
      cases fndB 131 a <;> cases fndB 137 a <;> cases l.any (fndB 131) <;> cases l.any (fndB 137) <;> rfl
  · cases h1 : l.any (fndB 131) with
    | false => rfl
    | true =>
      cases h2 : l.any (fndB 137) with
      | false => rfl
      | true =>
        exfalso
        obtain ⟨a, ha, ha2⟩ := List.any_eq_true.1 h1
        obtain ⟨b, hb, hb2⟩ := List.any_eq_true.1 h2
        have ka : a.k = 131 := by unfold fndB at ha2; have := beq_iff_eq.1 ha2; omega
        have kb : b.k = 137 := by unfold fndB at hb2; have := beq_iff_eq.1 hb2; omega
        have := (twP_two (l.map pr) [] ht).2 (pr a) (List.mem_map_of_mem ha) (pr b) (List.mem_map_of_mem hb) (by unfold pr; simp only; rw [ka]; decide) (by unfold pr; simp only; rw [ka, kb]; decide)
        have := congrArg Prod.fst this
        unfold pr at this
        simp only at this
        omega
set_option maxHeartbeats 8000000 in
theorem optsFinds_any (A : Option Addr) (n c : Nat) (l : List SmO) (kd : Nat) (w : World) (hl : l.length = n) (hnc : n ≤ c) (hrd : RdSm w A l) (hkd : kd < 256) :
    Calls Try.prog 7 #[.slice A n c, .int .u8 kd] w fun e w' => e = .returned (.bool true) ∧ Fr [] w w' := by
  have cA := awake6 w
  have cM := fun W (hW : Fr [] w W) => made_any A n c l W hl hnc (hrd.fr hW)
  have CM := Lib.hid cM
  clear hrd hl cM
  go_enter Try.func7, Try.ntmps7
  go_wp2_with fail
  refine cA.mono ?_
  rintro e wa ⟨rfl, hFa⟩
  clear cA
  go_wp2_with fail
  refine (CM.out _ hFa).mono ?_
  rintro e w1 ⟨os, A1, c1, rfl, ho1, hO1, hm1, hF1⟩
  have hI := mkAll_inv (l.take 40)
  generalize mkAll (l.take 40) = st at hm1 hI ⊢
  obtain ⟨L, N, ms⟩ := st
  simp only at hm1 hI ⊢
  have hN : N = (flatP L).length := hI.n
  have h40 : (flatP L).length ≤ 40 := by rw [← hN]; exact hI.le
  have hok := hI.ok
  have htw := hI.tw
  simp only at hok htw
  have hol : os.length ≤ 40 := by have := flatP_len L; rw [← hm1, List.length_map] at this; rw [hm1] at this; omega
  have hRO := hO1.rd ho1
  have hrt := routed_two (l := os) (by rw [hm1]; exact htw)
  have HRO := Lib.hid hRO
  have HF1 := Lib.hid (hFa.trans hF1)
  clear hI hN h40 hok htw hm1 hRO ho1 hO1 CM hFa hF1
  have cF := find_any A1 os.length c1 os kd w1 rfl HRO.out (by omega)
  have CF := Lib.hid cF
  have HRT := Lib.hid hrt
  clear cF hrt
  go_wp2_with fail
  refine CF.out.mono ?_
  rintro e w2 ⟨hF2, hcase⟩
  clear CF
  have hdi : ∀ (j : Nat), j ≤ os.length → IntKind.i64.wrap ((j : Int) - 1) = (j : Int) - 1 := fun j hj => IntWalk.i64_in _ (by omega)
  have hd0 := hdi os.length (Nat.le_refl _)
  have HDI := Lib.hid hdi
  clear hdi
  obtain ⟨k2, A2, m2, c2, is, rfl, hB⟩ : ∃ (k2 : Nat) (A2 : Option Addr) (m2 c2 : Nat) (is : Bool), e = .returned (.tuple #[.agg #[.int .u8 k2, .slice A2 m2 c2], .bool is]) ∧ ((is = false ∧ idxI os (fndB kd) = -1 ∧ k2 = 0 ∧ A2 = none ∧ m2 = 0 ∧ c2 = 0) ∨ (∃ (i : Nat) (o : Opt), is = true ∧ idxI os (fndB kd) = (i : Int) ∧ os[i]? = some o ∧ k2 = kd ∧ m2 = o.d.length ∧ w2.ownsRow w1.heap.size 5 1 (.slice A2 o.d.length c2) o.d.length (B8 o.d))) := by
    rcases hcase with ⟨hi, rfl⟩ | ⟨i, o, A', c', hi, ho, rfl, hown⟩
    · exact ⟨0, none, 0, 0, false, rfl, .inl ⟨rfl, hi, rfl, rfl, rfl, rfl⟩⟩
    · exact ⟨kd, A', _, c', true, rfl, .inr ⟨i, o, rfl, hi, ho, rfl, rfl, hown⟩⟩
  have HB := Lib.hid hB
  have HF2 := Lib.hid (HF1.out.trans hF2)
  have hFx : Fr [] w2 (w2.alloc (.cells #[.int .u8 k2, .slice A2 m2 c2] 35)) := (Fr.refl _ _).alloc _
  have hbx : (w2.alloc (.cells #[.int .u8 k2, .slice A2 m2 c2] 35)).heap[w2.heap.size]? = some (.cells #[.int .u8 k2, .slice A2 m2 c2] 35 (0, 0)) := heap_alloc_new _ _
  have HFX := Lib.hid hFx
  have HBX := Lib.hid hbx
  have HROx := Lib.hid (HRO.out.fr (hF2.trans hFx))
  clear hcase hB hF2 hFx hbx HRO HF1
  go_wp2_with fail
  clear hd0
  generalize w2.alloc (.cells #[.int .u8 k2, .slice A2 m2 c2] 35) = w4 at HFX HBX HROx ⊢
  go_loopw [9, 10] (fun s9 s10 wr => ∃ j : Nat, j ≤ os.length ∧ s10 = .int .i64 ((j : Int) - 1) ∧ s9 = .int .i64 (frm os (fndB kd) j) ∧ Fr [] w4 wr) (fun _ s10 _ => (intOf s10 + 1).toNat)
  case atStart => exact ⟨os.length, Nat.le_refl _, rfl, by rw [frm_end (Nat.le_refl _)], Fr.refl _ _⟩
  case round =>
    obtain ⟨j, hj, rfl, rfl, hF⟩ := hrel
    cases j with
    | succ i =>
      have ei : ((i + 1 : Nat) : Int) - 1 = (i : Int) := by omega
      rw [ei]
      obtain ⟨o, ho⟩ : ∃ o, os[i]? = some o := ⟨_, List.getElem?_eq_getElem (by omega)⟩
      obtain ⟨b, off, rfl, h1, h2, h3⟩ := (HROx.out.fr hF) i o ho
      have hst := frm_step (p := fndB kd) ho
      have hge : decide ((0 : Int) ≤ (i : Int)) = true := decide_eq_true (by omega)
      have i0 : (0 : Int) ≤ (i : Int) ∧ (i : Int) < (os.length : Int) := by omega
      have hdi := HDI.out i (by omega)
      have HF := Lib.hid hF
      generalize frm os (fndB kd) (i + 1) = fr1 at hst ⊢
      cases hp : fndB kd o with
      | true =>
        have e0 : ((o.k : Int) == (kd : Int)) = true := hp
        rw [hp, if_pos rfl] at hst
        have HST := Lib.hid hst
        clear hst hp hF h2 h3 ho ei
        go_wp2_with fail
        exact ⟨⟨i, by omega, rfl, by rw [HST.out], HF.out⟩, by simp [intOf]⟩
      | false =>
        have e0 : ((o.k : Int) == (kd : Int)) = false := hp
        rw [hp, if_neg (by simp)] at hst
        have HST := Lib.hid hst
        clear hst hp hF h2 h3 ho ei
        go_wp2_with fail
        exact ⟨⟨i, by omega, rfl, by rw [HST.out], HF.out⟩, by simp [intOf]⟩
    | zero =>
      rw [frm_zero]
      have hge : decide ((0 : Int) ≤ -1) = false := rfl
      rw [show ((0 : Nat) : Int) - 1 = -1 from rfl]
      have HF := Lib.hid hF
      have HROw := Lib.hid (HROx.out.fr hF)
      have HBXw := Lib.hid (hF.blk HBX.out (by simp))
      clear hF HROx HBX
      obtain ⟨ix, hix⟩ : ∃ ix, ix = idxI os (fndB kd) := ⟨_, rfl⟩
      rw [← hix]
      have HIX := Lib.hid hix
      clear hix
      obtain ⟨w5, rfl⟩ : ∃ w5, w5 = wr := ⟨_, rfl⟩
      have cL := find_b A1 os.length c1 os 131 w5 rfl HROw.out (by omega)
      have CL := Lib.hid cL
      clear cL
      go_wp2_with fail
      refine CL.out.mono ?_
      rintro e w6 ⟨⟨k6, A6, m6, c6, rfl⟩, hF6⟩
      have hF6' := hF6.trans ((Fr.refl [] w6).alloc (.cells #[.int .u8 k6, .slice A6 m6 c6] 35))
      have cT := find_b A1 os.length c1 os 137 (w6.alloc (.cells #[.int .u8 k6, .slice A6 m6 c6] 35)) rfl (HROw.out.fr hF6') (by omega)
      have CT := Lib.hid cT
      have HF6 := Lib.hid hF6'
      clear cT hF6 hF6' CL
      go_wp2_with fail
      refine CT.out.mono ?_
      rintro e w7 ⟨⟨k7, A7, m7, c7, rfl⟩, hF7⟩
      have hF57 : Fr [] w5 (w7.alloc (.cells #[.int .u8 k7, .slice A7 m7 c7] 35)) := (HF6.out.trans hF7).alloc _
      have HRO8 := Lib.hid (HROw.out.fr hF57)
      have HBX8 := Lib.hid (hF57.blk HBXw.out (by simp))
      have HF57 := Lib.hid hF57
      clear hF7 hF57 HF6 CT HROw HBXw
      go_upto_region 13 with (fail)
      generalize w7.alloc (.cells #[.int .u8 k7, .slice A7 m7 c7] 35) = w8 at HRO8 HBX8 HF57 ⊢

      rcases HB.out with ⟨rfl, hi, rfl, rfl, rfl, rfl⟩ | ⟨i, o, rfl, hi, ho, rfl, rfl, hown⟩
      · rw [HIX.out, hi]
        have cS := fun W (hW : Fr [] w8 W) => sameO_any 0 0 none none 0 0 0 0 [] [] W rfl rfl (Rd.nil _ _) (Rd.nil _ _) (by decide)
        rw [decide_eq_true ⟨rfl, rfl⟩] at cS
        unfold OV at cS
        have CS := Lib.hid cS
        have Q0 := Lib.hid (obx0 (k := 0) HBX8.out)
        have Q1 := Lib.hid (obx1 (k := 0) HBX8.out)
        have g1 : decide ((0 : Int) ≤ -1) = false := rfl
        clear hi cS
        have hS0 : Fr [] w8 w8.drew := (Fr.refl _ _).drew
        refine wp_region_held_drew (S := Fr [] w8) (by kernel_rfl) hS0 (fun hS => ?_)
        clear hS0
        refine wpAnyH_take (i := 0) (v := ?_) rfl (by kernel_rfl) (by kernel_rfl) (by kernel_rfl) (fun _ _ _ h => h) (Or.inl ⟨by rfl, ?_⟩) hS ?_
        rotate_left 1
        · intro W hSw; go_simp; with_reducible rfl
        try simp only [Act.put, List.getElem_toArray, List.getElem_cons_zero, List.setIfInBounds_toArray, List.set_cons_zero, List.set_cons_succ]
        refine wpAnyH_take (i := 1) (v := ?_) rfl (by kernel_rfl) (by kernel_rfl) (by kernel_rfl) (fun _ _ _ h => h) (Or.inl ⟨by rfl, ?_⟩) hS ?_
        rotate_left 1
        · intro W hSw; go_simp; with_reducible rfl
        try simp only [Act.put, List.getElem_toArray, List.getElem_cons_succ, List.getElem_cons_zero, List.setIfInBounds_toArray, List.set_cons_zero, List.set_cons_succ]
        refine wpAnyH_take (i := 2) (v := ?_) rfl (by kernel_rfl) (by kernel_rfl) (by kernel_rfl) (fun _ _ _ h => h) (Or.inl ⟨by rfl, ?_⟩) hS ?_
        rotate_left 1
        · intro W hSw; go_simp; with_reducible rfl
        try simp only [Act.put, List.getElem_toArray, List.getElem_cons_succ, List.getElem_cons_zero, List.setIfInBounds_toArray, List.set_cons_zero, List.set_cons_succ]
        refine wpAnyH_take (i := 3) (v := ?_) rfl (by kernel_rfl) (by kernel_rfl) (by kernel_rfl) (fun _ _ _ h => h) (Or.inl ⟨by rfl, ?_⟩) hS ?_
        rotate_left 1
        · intro W hSw; go_simp; with_reducible rfl
        try simp only [Act.put, List.getElem_toArray, List.getElem_cons_succ, List.getElem_cons_zero, List.setIfInBounds_toArray, List.set_cons_zero, List.set_cons_succ]
        refine wpAnyH_take (i := 4) (v := ?_) rfl (by kernel_rfl) (by kernel_rfl) (by kernel_rfl) (fun _ _ _ h => h) (Or.inl ⟨by rfl, ?_⟩) hS ?_
        rotate_left 1
        · intro W hSw; go_simp; with_reducible rfl
        try simp only [Act.put, List.getElem_toArray, List.getElem_cons_succ, List.getElem_cons_zero, List.setIfInBounds_toArray, List.set_cons_zero, List.set_cons_succ]
        refine wpAnyH_take (i := 5) (v := ?_) rfl (by kernel_rfl) (by kernel_rfl) (by kernel_rfl) (fun _ _ _ h => h) (Or.inl ⟨by rfl, ?_⟩) hS ?_
        rotate_left 1
        · intro W hSw; go_simp; with_reducible rfl
        try simp only [Act.put, List.getElem_toArray, List.getElem_cons_succ, List.getElem_cons_zero, List.setIfInBounds_toArray, List.set_cons_zero, List.set_cons_succ]
        refine wpAnyH_take (i := 6) (v := ?_) rfl (by kernel_rfl) (by kernel_rfl) (by kernel_rfl) (fun _ _ _ h => h) (Or.inl ⟨by rfl, ?_⟩) hS ?_
        rotate_left 1
        · intro W hSw; go_simp; with_reducible rfl
        try simp only [Act.put, List.getElem_toArray, List.getElem_cons_succ, List.getElem_cons_zero, List.setIfInBounds_toArray, List.set_cons_zero, List.set_cons_succ]
        refine wpAnyH_take (i := 7) (v := undef) rfl (by kernel_rfl) (by kernel_rfl) (by kernel_rfl) (fun _ _ _ h => h) (Or.inr ⟨by rfl, rfl⟩) hS ?_
        try simp only [Act.put, List.getElem_toArray, List.getElem_cons_succ, List.getElem_cons_zero, List.setIfInBounds_toArray, List.set_cons_zero, List.set_cons_succ]
        refine wpAnyH_take (i := 8) (v := undef) rfl (by kernel_rfl) (by kernel_rfl) (by kernel_rfl) (fun _ _ _ h => h) (Or.inr ⟨by rfl, rfl⟩) hS ?_
        try simp only [Act.put, List.getElem_toArray, List.getElem_cons_succ, List.getElem_cons_zero, List.setIfInBounds_toArray, List.set_cons_zero, List.set_cons_succ]
        refine wpAnyH_take (i := 9) (v := undef) rfl (by kernel_rfl) (by kernel_rfl) (by kernel_rfl) (fun _ _ _ h => h) (Or.inr ⟨by rfl, rfl⟩) hS ?_
        try simp only [Act.put, List.getElem_toArray, List.getElem_cons_succ, List.getElem_cons_zero, List.setIfInBounds_toArray, List.set_cons_zero, List.set_cons_succ]
        refine wpAnyH_take (i := 10) (v := undef) rfl (by kernel_rfl) (by kernel_rfl) (by kernel_rfl) (fun _ _ _ h => h) (Or.inr ⟨by rfl, rfl⟩) hS ?_
        try simp only [Act.put, List.getElem_toArray, List.getElem_cons_succ, List.getElem_cons_zero, List.setIfInBounds_toArray, List.set_cons_zero, List.set_cons_succ]
        refine wpAnyH_take (i := 11) (v := undef) rfl (by kernel_rfl) (by kernel_rfl) (by kernel_rfl) (fun _ _ _ h => h) (Or.inr ⟨by rfl, rfl⟩) hS ?_
        try simp only [Act.put, List.getElem_toArray, List.getElem_cons_succ, List.getElem_cons_zero, List.setIfInBounds_toArray, List.set_cons_zero, List.set_cons_succ]
        refine wpAnyH_take (i := 12) (v := undef) rfl (by kernel_rfl) (by kernel_rfl) (by kernel_rfl) (fun _ _ _ h => h) (Or.inr ⟨by rfl, rfl⟩) hS ?_
        try simp only [Act.put, List.getElem_toArray, List.getElem_cons_succ, List.getElem_cons_zero, List.setIfInBounds_toArray, List.set_cons_zero, List.set_cons_succ]
        refine wpAnyH_take (i := 13) (v := undef) rfl (by kernel_rfl) (by kernel_rfl) (by kernel_rfl) (fun _ _ _ h => h) (Or.inr ⟨by rfl, rfl⟩) hS ?_
        try simp only [Act.put, List.getElem_toArray, List.getElem_cons_succ, List.getElem_cons_zero, List.setIfInBounds_toArray, List.set_cons_zero, List.set_cons_succ]
        refine wpAnyH_take (i := 14) (v := ?_) rfl (by kernel_rfl) (by kernel_rfl) (by kernel_rfl) (fun _ _ _ h => h) (Or.inl ⟨by rfl, ?_⟩) hS ?_
        rotate_left 1
        · intro W hSw; go_simp; with_reducible rfl
        try simp only [Act.put, List.getElem_toArray, List.getElem_cons_succ, List.getElem_cons_zero, List.setIfInBounds_toArray, List.set_cons_zero, List.set_cons_succ]
        refine wpAnyH_take (i := 15) (v := ?_) rfl (by kernel_rfl) (by kernel_rfl) (by kernel_rfl) (fun _ _ _ h => h) (Or.inl ⟨by rfl, ?_⟩) hS ?_
        rotate_left 1
        · intro W hSw; go_simp; with_reducible rfl
        try simp only [Act.put, List.getElem_toArray, List.getElem_cons_succ, List.getElem_cons_zero, List.setIfInBounds_toArray, List.set_cons_zero, List.set_cons_succ]
        refine wpAnyH_take (i := 16) (v := ?_) rfl (by kernel_rfl) (by kernel_rfl) (by kernel_rfl) (fun _ _ _ h => h) (Or.inl ⟨by rfl, ?_⟩) hS ?_
        rotate_left 1
        · intro W hSw; go_simp; with_reducible rfl
        try simp only [Act.put, List.getElem_toArray, List.getElem_cons_succ, List.getElem_cons_zero, List.setIfInBounds_toArray, List.set_cons_zero, List.set_cons_succ]
        refine wpAnyH_take (i := 17) (v := ?_) rfl (by kernel_rfl) (by kernel_rfl) (by kernel_rfl) (fun _ _ _ h => h) (Or.inl ⟨by rfl, ?_⟩) hS ?_
        rotate_left 1
        · intro W hSw; go_simp; with_reducible rfl
        try simp only [Act.put, List.getElem_toArray, List.getElem_cons_succ, List.getElem_cons_zero, List.setIfInBounds_toArray, List.set_cons_zero, List.set_cons_succ]
        refine wpAnyH_take (i := 18) (v := ?_) rfl (by kernel_rfl) (by kernel_rfl) (by kernel_rfl) (fun _ _ _ h => h) (Or.inl ⟨by rfl, ?_⟩) hS ?_
        rotate_left 1
        · intro W hSw; go_simp; with_reducible rfl
        try simp only [Act.put, List.getElem_toArray, List.getElem_cons_succ, List.getElem_cons_zero, List.setIfInBounds_toArray, List.set_cons_zero, List.set_cons_succ]
        refine wpAnyH_take (i := 19) (v := ?_) rfl (by kernel_rfl) (by kernel_rfl) (by kernel_rfl) (fun _ _ _ h => h) (Or.inl ⟨by rfl, ?_⟩) hS ?_
        rotate_left 1
        · intro W hSw; go_simp; with_reducible rfl
        try simp only [Act.put, List.getElem_toArray, List.getElem_cons_succ, List.getElem_cons_zero, List.setIfInBounds_toArray, List.set_cons_zero, List.set_cons_succ]
        refine wpAnyH_take (i := 20) (v := ?_) rfl (by kernel_rfl) (by kernel_rfl) (by kernel_rfl) (fun _ _ _ h => h) (Or.inl ⟨by rfl, ?_⟩) hS ?_
        rotate_left 1
        · intro W hSw; have q0 := Fr.cell hSw Q0.out (by simp); have q1 := Fr.cell hSw Q1.out (by simp); go_simp; with_reducible rfl
        try simp only [Act.put, List.getElem_toArray, List.getElem_cons_succ, List.getElem_cons_zero, List.setIfInBounds_toArray, List.set_cons_zero, List.set_cons_succ]
        refine wpAnyH_take (i := 21) (v := ?_) rfl (by kernel_rfl) (by kernel_rfl) (by kernel_rfl) (fun _ _ _ h => h) (Or.inl ⟨by rfl, ?_⟩) hS ?_
        rotate_left 1
        · intro W hSw; go_simp; with_reducible rfl
        try simp only [Act.put, List.getElem_toArray, List.getElem_cons_succ, List.getElem_cons_zero, List.setIfInBounds_toArray, List.set_cons_zero, List.set_cons_succ]
        refine wpAnyH_ready (rs := [22]) (by kernel_rfl) (by simp) ?_
        refine AllReadyH.cons rfl (fun K hK => ?_) AllReadyH.nil
        go_simp
        refine (CS.out _ hS).mono ?_
        rintro e wc ⟨rfl, hFq⟩
        have hS5 : Fr [] w8 wc := hS.trans hFq
        refine hK.out _ _ hS5 (fun hS2 => ?_)
        clear hK K hFq hS
        replace hS := hS2
        clear hS2
        try simp only [Act.put, List.getElem_toArray, List.getElem_cons_succ, List.getElem_cons_zero, List.setIfInBounds_toArray, List.set_cons_zero, List.set_cons_succ]
        refine wpAnyH_take (i := 23) (v := ?_) rfl (by kernel_rfl) (by kernel_rfl) (by kernel_rfl) (fun _ _ _ h => h) (Or.inl ⟨by rfl, ?_⟩) hS ?_
        rotate_left 1
        · intro W hSw; go_simp; with_reducible rfl
        try simp only [Act.put, List.getElem_toArray, List.getElem_cons_succ, List.getElem_cons_zero, List.setIfInBounds_toArray, List.set_cons_zero, List.set_cons_succ]
        refine wpAnyH_take (i := 24) (v := ?_) rfl (by kernel_rfl) (by kernel_rfl) (by kernel_rfl) (fun _ _ _ h => h) (Or.inl ⟨by rfl, ?_⟩) hS ?_
        rotate_left 1
        · intro W hSw; go_simp; with_reducible rfl
        try simp only [Act.put, List.getElem_toArray, List.getElem_cons_succ, List.getElem_cons_zero, List.setIfInBounds_toArray, List.set_cons_zero, List.set_cons_succ]
        refine wpAnyH_take (i := 25) (v := ?_) rfl (by kernel_rfl) (by kernel_rfl) (by kernel_rfl) (fun _ _ _ h => h) (Or.inl ⟨by rfl, ?_⟩) hS ?_
        rotate_left 1
        · intro W hSw; go_simp; with_reducible rfl
        try simp only [Act.put, List.getElem_toArray, List.getElem_cons_succ, List.getElem_cons_zero, List.setIfInBounds_toArray, List.set_cons_zero, List.set_cons_succ]
        refine wpAnyH_done (by kernel_rfl) ?_ _
        have HFE := Lib.hid (HF2.out.trans (HFX.out.trans (HF.out.trans (HF57.out.trans hS))))
        have HROE := Lib.hid (HRO8.out.fr hS)
        clear hS
        have cQ := fun W (hW : RdO W A1 os) => routed_any A1 os.length c1 os W rfl hW (by omega)
        rw [HRT.out.1] at cQ
        have h2 := HRT.out.2
        generalize os.any (fndB 131) = lo at cQ h2 ⊢
        generalize os.any (fndB 137) = st at cQ h2 ⊢
        have CQ := Lib.hid cQ
        clear cQ
        cases lo <;> cases st
        all_goals first | exact absurd h2 (by decide) | skip
        all_goals
          clear h2
          go_wp2_with fail
          refine (CQ.out _ HROE.out).mono ?_
          rintro e wq ⟨rfl, hFq⟩
          have HFQ := Lib.hid (HFE.out.trans hFq)
          clear hFq
          go_wp2_with fail
          go_ret
          exact ⟨rfl, HFQ.out⟩
      · rw [HIX.out, hi]
        obtain ⟨b, off, hA1, h1, h2, h3⟩ := HRO8.out i o ho
        have hko : o.k = k2 := idx_hit hi ho
        have hbk := HBX8.out
        have cS := fun W (hW : Fr [] w8 W) => sameO_any k2 o.k A2 o.A o.d.length o.n c2 o.c o.d o.d W rfl h3.len ((Rd.own hown).fr (HFX.out.trans (HF.out.trans (HF57.out.trans hW))) (by simp)) (h3.rd.fr hW (by simp)) (by have := h3.len; have := h3.n; omega)
        rw [decide_eq_true ⟨hko.symm, rfl⟩] at cS
        unfold OV at cS
        have CS := Lib.hid cS
        have Q0 := Lib.hid (obx0 (k := k2) HBX8.out)
        have Q1 := Lib.hid (obx1 (k := k2) HBX8.out)
        have Q2 := Lib.hid h1
        have Q3 := Lib.hid h2
        have hin := (List.getElem?_eq_some_iff.1 ho).1
        have g1 : decide ((0 : Int) ≤ (i : Int)) = true := decide_eq_true (by omega)
        have g2 : (0 : Int) ≤ (i : Int) ∧ (i : Int) < (os.length : Int) := by omega
        subst hA1
        clear hi cS h1 h2 h3 ho hko hbk hown hin
        have hS0 : Fr [] w8 w8.drew := (Fr.refl _ _).drew
        refine wp_region_held_drew (S := Fr [] w8) (by kernel_rfl) hS0 (fun hS => ?_)
        clear hS0
        refine wpAnyH_take (i := 0) (v := ?_) rfl (by kernel_rfl) (by kernel_rfl) (by kernel_rfl) (fun _ _ _ h => h) (Or.inl ⟨by rfl, ?_⟩) hS ?_
        rotate_left 1
        · intro W hSw; go_simp; with_reducible rfl
        try simp only [Act.put, List.getElem_toArray, List.getElem_cons_zero, List.setIfInBounds_toArray, List.set_cons_zero, List.set_cons_succ]
        refine wpAnyH_take (i := 1) (v := ?_) rfl (by kernel_rfl) (by kernel_rfl) (by kernel_rfl) (fun _ _ _ h => h) (Or.inl ⟨by rfl, ?_⟩) hS ?_
        rotate_left 1
        · intro W hSw; go_simp; with_reducible rfl
        try simp only [Act.put, List.getElem_toArray, List.getElem_cons_succ, List.getElem_cons_zero, List.setIfInBounds_toArray, List.set_cons_zero, List.set_cons_succ]
        refine wpAnyH_take (i := 2) (v := ?_) rfl (by kernel_rfl) (by kernel_rfl) (by kernel_rfl) (fun _ _ _ h => h) (Or.inl ⟨by rfl, ?_⟩) hS ?_
        rotate_left 1
        · intro W hSw; go_simp; with_reducible rfl
        try simp only [Act.put, List.getElem_toArray, List.getElem_cons_succ, List.getElem_cons_zero, List.setIfInBounds_toArray, List.set_cons_zero, List.set_cons_succ]
        refine wpAnyH_take (i := 3) (v := ?_) rfl (by kernel_rfl) (by kernel_rfl) (by kernel_rfl) (fun _ _ _ h => h) (Or.inl ⟨by rfl, ?_⟩) hS ?_
        rotate_left 1
        · intro W hSw; go_simp; with_reducible rfl
        try simp only [Act.put, List.getElem_toArray, List.getElem_cons_succ, List.getElem_cons_zero, List.setIfInBounds_toArray, List.set_cons_zero, List.set_cons_succ]
        refine wpAnyH_take (i := 4) (v := ?_) rfl (by kernel_rfl) (by kernel_rfl) (by kernel_rfl) (fun _ _ _ h => h) (Or.inl ⟨by rfl, ?_⟩) hS ?_
        rotate_left 1
        · intro W hSw; go_simp; with_reducible rfl
        try simp only [Act.put, List.getElem_toArray, List.getElem_cons_succ, List.getElem_cons_zero, List.setIfInBounds_toArray, List.set_cons_zero, List.set_cons_succ]
        refine wpAnyH_take (i := 5) (v := ?_) rfl (by kernel_rfl) (by kernel_rfl) (by kernel_rfl) (fun _ _ _ h => h) (Or.inl ⟨by rfl, ?_⟩) hS ?_
        rotate_left 1
        · intro W hSw; go_simp; with_reducible rfl
        try simp only [Act.put, List.getElem_toArray, List.getElem_cons_succ, List.getElem_cons_zero, List.setIfInBounds_toArray, List.set_cons_zero, List.set_cons_succ]
        refine wpAnyH_take (i := 6) (v := ?_) rfl (by kernel_rfl) (by kernel_rfl) (by kernel_rfl) (fun _ _ _ h => h) (Or.inl ⟨by rfl, ?_⟩) hS ?_
        rotate_left 1
        · intro W hSw; go_simp; with_reducible rfl
        try simp only [Act.put, List.getElem_toArray, List.getElem_cons_succ, List.getElem_cons_zero, List.setIfInBounds_toArray, List.set_cons_zero, List.set_cons_succ]
        refine wpAnyH_take (i := 7) (v := ?_) rfl (by kernel_rfl) (by kernel_rfl) (by kernel_rfl) (fun _ _ _ h => h) (Or.inl ⟨by rfl, ?_⟩) hS ?_
        rotate_left 1
        · intro W hSw; have q0 := Fr.cell hSw Q0.out (by simp); have q1 := Fr.cell hSw Q1.out (by simp); have q2 := Fr.cell hSw Q2.out (by simp); have q3 := Fr.cell hSw Q3.out (by simp); go_simp; with_reducible rfl
        try simp only [Act.put, List.getElem_toArray, List.getElem_cons_succ, List.getElem_cons_zero, List.setIfInBounds_toArray, List.set_cons_zero, List.set_cons_succ]
        refine wpAnyH_take (i := 8) (v := ?_) rfl (by kernel_rfl) (by kernel_rfl) (by kernel_rfl) (fun _ _ _ h => h) (Or.inl ⟨by rfl, ?_⟩) hS ?_
        rotate_left 1
        · intro W hSw; go_simp; with_reducible rfl
        try simp only [Act.put, List.getElem_toArray, List.getElem_cons_succ, List.getElem_cons_zero, List.setIfInBounds_toArray, List.set_cons_zero, List.set_cons_succ]
        refine wpAnyH_take (i := 9) (v := ?_) rfl (by kernel_rfl) (by kernel_rfl) (by kernel_rfl) (fun _ _ _ h => h) (Or.inl ⟨by rfl, ?_⟩) hS ?_
        rotate_left 1
        · intro W hSw; go_simp; with_reducible rfl
        try simp only [Act.put, List.getElem_toArray, List.getElem_cons_succ, List.getElem_cons_zero, List.setIfInBounds_toArray, List.set_cons_zero, List.set_cons_succ]
        refine wpAnyH_take (i := 10) (v := ?_) rfl (by kernel_rfl) (by kernel_rfl) (by kernel_rfl) (fun _ _ _ h => h) (Or.inl ⟨by rfl, ?_⟩) hS ?_
        rotate_left 1
        · intro W hSw; go_simp; with_reducible rfl
        try simp only [Act.put, List.getElem_toArray, List.getElem_cons_succ, List.getElem_cons_zero, List.setIfInBounds_toArray, List.set_cons_zero, List.set_cons_succ]
        refine wpAnyH_take (i := 11) (v := ?_) rfl (by kernel_rfl) (by kernel_rfl) (by kernel_rfl) (fun _ _ _ h => h) (Or.inl ⟨by rfl, ?_⟩) hS ?_
        rotate_left 1
        · intro W hSw; have q0 := Fr.cell hSw Q0.out (by simp); have q1 := Fr.cell hSw Q1.out (by simp); have q2 := Fr.cell hSw Q2.out (by simp); have q3 := Fr.cell hSw Q3.out (by simp); go_simp; with_reducible rfl
        try simp only [Act.put, List.getElem_toArray, List.getElem_cons_succ, List.getElem_cons_zero, List.setIfInBounds_toArray, List.set_cons_zero, List.set_cons_succ]
        refine wpAnyH_ready (rs := [12]) (by kernel_rfl) (by simp) ?_
        refine AllReadyH.cons rfl (fun K hK => ?_) AllReadyH.nil
        go_simp
        refine (CS.out _ hS).mono ?_
        rintro e wc ⟨rfl, hFq⟩
        have hS5 : Fr [] w8 wc := hS.trans hFq
        refine hK.out _ _ hS5 (fun hS2 => ?_)
        clear hK K hFq hS
        replace hS := hS2
        clear hS2
        try simp only [Act.put, List.getElem_toArray, List.getElem_cons_succ, List.getElem_cons_zero, List.setIfInBounds_toArray, List.set_cons_zero, List.set_cons_succ]
        refine wpAnyH_take (i := 13) (v := ?_) rfl (by kernel_rfl) (by kernel_rfl) (by kernel_rfl) (fun _ _ _ h => h) (Or.inl ⟨by rfl, ?_⟩) hS ?_
        rotate_left 1
        · intro W hSw; go_simp; with_reducible rfl
        try simp only [Act.put, List.getElem_toArray, List.getElem_cons_succ, List.getElem_cons_zero, List.setIfInBounds_toArray, List.set_cons_zero, List.set_cons_succ]
        refine wpAnyH_take (i := 14) (v := ?_) rfl (by kernel_rfl) (by kernel_rfl) (by kernel_rfl) (fun _ _ _ h => h) (Or.inl ⟨by rfl, ?_⟩) hS ?_
        rotate_left 1
        · intro W hSw; go_simp; with_reducible rfl
        try simp only [Act.put, List.getElem_toArray, List.getElem_cons_succ, List.getElem_cons_zero, List.setIfInBounds_toArray, List.set_cons_zero, List.set_cons_succ]
        refine wpAnyH_take (i := 15) (v := ?_) rfl (by kernel_rfl) (by kernel_rfl) (by kernel_rfl) (fun _ _ _ h => h) (Or.inl ⟨by rfl, ?_⟩) hS ?_
        rotate_left 1
        · intro W hSw; go_simp; with_reducible rfl
        try simp only [Act.put, List.getElem_toArray, List.getElem_cons_succ, List.getElem_cons_zero, List.setIfInBounds_toArray, List.set_cons_zero, List.set_cons_succ]
        refine wpAnyH_take (i := 16) (v := ?_) rfl (by kernel_rfl) (by kernel_rfl) (by kernel_rfl) (fun _ _ _ h => h) (Or.inl ⟨by rfl, ?_⟩) hS ?_
        rotate_left 1
        · intro W hSw; go_simp; with_reducible rfl
        try simp only [Act.put, List.getElem_toArray, List.getElem_cons_succ, List.getElem_cons_zero, List.setIfInBounds_toArray, List.set_cons_zero, List.set_cons_succ]
        refine wpAnyH_take (i := 17) (v := ?_) rfl (by kernel_rfl) (by kernel_rfl) (by kernel_rfl) (fun _ _ _ h => h) (Or.inl ⟨by rfl, ?_⟩) hS ?_
        rotate_left 1
        · intro W hSw; go_simp; with_reducible rfl
        try simp only [Act.put, List.getElem_toArray, List.getElem_cons_succ, List.getElem_cons_zero, List.setIfInBounds_toArray, List.set_cons_zero, List.set_cons_succ]
        refine wpAnyH_take (i := 18) (v := ?_) rfl (by kernel_rfl) (by kernel_rfl) (by kernel_rfl) (fun _ _ _ h => h) (Or.inl ⟨by rfl, ?_⟩) hS ?_
        rotate_left 1
        · intro W hSw; go_simp; with_reducible rfl
        try simp only [Act.put, List.getElem_toArray, List.getElem_cons_succ, List.getElem_cons_zero, List.setIfInBounds_toArray, List.set_cons_zero, List.set_cons_succ]
        refine wpAnyH_take (i := 19) (v := ?_) rfl (by kernel_rfl) (by kernel_rfl) (by kernel_rfl) (fun _ _ _ h => h) (Or.inl ⟨by rfl, ?_⟩) hS ?_
        rotate_left 1
        · intro W hSw; go_simp; with_reducible rfl
        try simp only [Act.put, List.getElem_toArray, List.getElem_cons_succ, List.getElem_cons_zero, List.setIfInBounds_toArray, List.set_cons_zero, List.set_cons_succ]
        refine wpAnyH_take (i := 20) (v := undef) rfl (by kernel_rfl) (by kernel_rfl) (by kernel_rfl) (fun _ _ _ h => h) (Or.inr ⟨by rfl, rfl⟩) hS ?_
        try simp only [Act.put, List.getElem_toArray, List.getElem_cons_succ, List.getElem_cons_zero, List.setIfInBounds_toArray, List.set_cons_zero, List.set_cons_succ]
        refine wpAnyH_take (i := 21) (v := undef) rfl (by kernel_rfl) (by kernel_rfl) (by kernel_rfl) (fun _ _ _ h => h) (Or.inr ⟨by rfl, rfl⟩) hS ?_
        try simp only [Act.put, List.getElem_toArray, List.getElem_cons_succ, List.getElem_cons_zero, List.setIfInBounds_toArray, List.set_cons_zero, List.set_cons_succ]
        refine wpAnyH_take (i := 22) (v := undef) rfl (by kernel_rfl) (by kernel_rfl) (by kernel_rfl) (fun _ _ _ h => h) (Or.inr ⟨by rfl, rfl⟩) hS ?_
        try simp only [Act.put, List.getElem_toArray, List.getElem_cons_succ, List.getElem_cons_zero, List.setIfInBounds_toArray, List.set_cons_zero, List.set_cons_succ]
        refine wpAnyH_take (i := 23) (v := undef) rfl (by kernel_rfl) (by kernel_rfl) (by kernel_rfl) (fun _ _ _ h => h) (Or.inr ⟨by rfl, rfl⟩) hS ?_
        try simp only [Act.put, List.getElem_toArray, List.getElem_cons_succ, List.getElem_cons_zero, List.setIfInBounds_toArray, List.set_cons_zero, List.set_cons_succ]
        refine wpAnyH_take (i := 24) (v := ?_) rfl (by kernel_rfl) (by kernel_rfl) (by kernel_rfl) (fun _ _ _ h => h) (Or.inl ⟨by rfl, ?_⟩) hS ?_
        rotate_left 1
        · intro W hSw; go_simp; with_reducible rfl
        try simp only [Act.put, List.getElem_toArray, List.getElem_cons_succ, List.getElem_cons_zero, List.setIfInBounds_toArray, List.set_cons_zero, List.set_cons_succ]
        refine wpAnyH_take (i := 25) (v := ?_) rfl (by kernel_rfl) (by kernel_rfl) (by kernel_rfl) (fun _ _ _ h => h) (Or.inl ⟨by rfl, ?_⟩) hS ?_
        rotate_left 1
        · intro W hSw; go_simp; with_reducible rfl
        try simp only [Act.put, List.getElem_toArray, List.getElem_cons_succ, List.getElem_cons_zero, List.setIfInBounds_toArray, List.set_cons_zero, List.set_cons_succ]
        refine wpAnyH_done (by kernel_rfl) ?_ _
        have HFE := Lib.hid (HF2.out.trans (HFX.out.trans (HF.out.trans (HF57.out.trans hS))))
        have HROE := Lib.hid (HRO8.out.fr hS)
        clear hS
        have cQ := fun W (hW : RdO W (some ⟨b, off, none⟩) os) => routed_any (some ⟨b, off, none⟩) os.length c1 os W rfl hW (by omega)
        rw [HRT.out.1] at cQ
        have h2 := HRT.out.2
        generalize os.any (fndB 131) = lo at cQ h2 ⊢
        generalize os.any (fndB 137) = st at cQ h2 ⊢
        have CQ := Lib.hid cQ
        clear cQ
        cases lo <;> cases st
        all_goals first | exact absurd h2 (by decide) | skip
        all_goals
          clear h2
          go_wp2_with fail
          refine (CQ.out _ HROE.out).mono ?_
          rintro e wq ⟨rfl, hFq⟩
          have HFQ := Lib.hid (HFE.out.trans hFq)
          clear hFq
          go_wp2_with fail
          go_ret
          exact ⟨rfl, HFQ.out⟩
end Go.Proofs.Ytnollgbfgkjmlaa
