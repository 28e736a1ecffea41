/- The walk of CsumOrder. -/
import Derived.Test.YtdkpmbefnfdbkaaConc
import Derived.Test.YtdkpmbefnfdbkaaFixed
import Derived.Deep.RegionLaw
namespace Go.Proofs.Ytdkpmbefnfdbkaa
open Go.RowKit

theorem even_take {xs : List UInt8} {k : Nat} (h : k ≤ xs.length) : (xs.take k).length = k := by simp; omega
/-- The words turned round. -/
theorem wsum_turn {xs : List UInt8} {k : Nat} (hk : k % 2 = 0) (hl : xs.length % 2 = 0) (h : k ≤ xs.length) : wsum (xs.drop k ++ xs.take k) = wsum xs := by
  rw [wsum_append _ _ (by rw [List.length_drop]; omega), Nat.add_comm, ← wsum_append _ _ (by rw [even_take h]; exact hk), List.take_append_drop]
theorem rd_drop' {w : World} {A : Option Addr} {xs : List UInt8} (h : Rd w A (B8 xs)) (k : Nat) : Rd w (A.map (·.add k)) (B8 (xs.drop k)) := by
  have h1 := h.drop k
  rwa [B8_drop] at h1

set_option maxRecDepth 100000 in
set_option maxHeartbeats 3000000 in
theorem corder_any (A B : Option Addr) (n c p d m q : Nat) (xs ys : List UInt8) (by_ : Nat) (w : World) (hm : (n ≤ 3000 ∧ m = n) ∨ (¬ n ≤ 3000 ∧ m = 3000)) (hq : (p ≤ 3000 ∧ q = p) ∨ (¬ p ≤ 3000 ∧ q = 3000))
    (hx : xs.length = m) (hy : ys.length = q) (ha : Rd w A (B8 xs)) (hb : Rd w B (B8 ys)) (hna : A = none → c = 0) (hnb : B = none → d = 0) (hnc : n ≤ c) (hpd : p ≤ d) (hby : by_ < 65536) :
    Calls Try.prog 7 #[.slice A n c, .slice B p d, .int .u16 by_] w fun e w' => e = .returned (.bool true) ∧ Fr [] w w' := by
  have HX := Lib.hid hx
  have HY := Lib.hid hy
  have HA := Lib.hid hna
  have HB := Lib.hid hnb
  have hm2 : m ≤ 3000 ∧ m ≤ n := by omega
  have hq2 : q ≤ 3000 ∧ q ≤ p := by omega
  have hmin1 := min_is (M := 3000) rfl hm
  have hmin2 := min_is (M := 3000) rfl hq
  have hmc : m ≤ c := by omega
  have hqd : q ≤ d := by omega
  obtain ⟨E, hE⟩ : ∃ E, E = m / 2 * 2 := ⟨_, rfl⟩
  have hE2 : E ≤ m ∧ E % 2 = 0 := by omega
  have hEw : (m : Int) / 2 * 2 = (E : Int) := by omega
  have hEw2 : wrap64 ((m : Int) / 2 * 2) = (E : Int) := by rw [hEw]; exact w64 (by omega) (by omega)
  have hEw3 : IntKind.i64.wrap ((m : Int) / 2 * 2) = (E : Int) := by rw [hEw]; exact IntWalk.i64_in _ (by omega)
  have hEc : (E : Int) ≤ (c : Int) := by omega
  have hEn : (0 : Int) ≤ (E : Int) := by omega
  clear hm hq hx hy hna hnb hE hEw
  go_enter Try.func7, Try.ntmps7
  go_wp2_with fail
  refine (awake_any w).mono ?_
  rintro e w1 ⟨rfl, hF⟩
  replace ha := ha.fr hF (by simp)
  replace hb := hb.fr hF (by simp)
  go_wp2_with fail
  go_region
  have hae := ha.take E
  rw [B8_take] at hae
  have hel : (xs.take E).length = E := even_take (by rw [HX.out]; exact hE2.1)
  have HE := Lib.hid hel
  have HEW : Hid (wsum (xs.take E ++ ys) = wsum (xs.take E) + wsum ys) := wsum_append _ _ (by rw [hel]; exact hE2.2)
  have HTU : Hid (∀ k, k % 2 = 0 → k ≤ E → wsum ((xs.take E).drop k ++ (xs.take E).take k) = wsum (xs.take E)) := fun k h1 h2 => wsum_turn h1 (by rw [hel]; exact hE2.2) (by rw [hel]; exact h2)
  generalize hes : xs.take E = es at hae HE HEW HTU
  clear hel hes
  have hgb : Rd (w1.alloc (.cells #[.slice A E c, .slice B q d] 22)).drew (some ⟨w1.heap.size, 0, none⟩) [.slice A E c, .slice B q d] := (rd_lit w1 [.slice A E c, .slice B q d] 22).alk rfl
  have hF2 : Fr [] w1 (w1.alloc (.cells #[.slice A E c, .slice B q d] 22)).drew := ((Fr.refl _ _).alloc _).drew
  replace hF := hF.trans hF2
  replace ha := ha.fr hF2 (by simp)
  replace hae := hae.fr hF2 (by simp)
  replace hb := hb.fr hF2 (by simp)
  clear hF2
  go_wp2_with fail
  refine (concat2 hgb HE.out HY.out hae hb HA.out HB.out (by omega) (by omega)).mono ?_
  rintro e w2 ⟨A2, c2, rfl, ho2, hF2⟩
  replace hF := hF.trans hF2
  replace ha := ha.fr hF2 (by simp)
  replace hae := hae.fr hF2 (by simp)
  replace hb := hb.fr hF2 (by simp)
  clear hF2 hgb
  obtain ⟨s1, hs1⟩ : ∃ s1, s1 = fold (wsum es + wsum ys) := ⟨_, rfl⟩
  have HS1 := Lib.hid hs1
  clear hs1
  go_wp2_with fail
  refine (sum_is (v := s1) (by rw [List.length_append, HE.out, HY.out]) (Rd.own ho2) (by omega) (by rw [HS1.out, HEW.out])).mono ?_
  rintro e w3 ⟨rfl, hF3⟩
  replace hF := hF.trans hF3
  replace ha := ha.fr hF3 (by simp)
  replace hae := hae.fr hF3 (by simp)
  replace hb := hb.fr hF3 (by simp)
  clear hF3 ho2 HEW
  obtain ⟨e1, he1⟩ : ∃ e1, e1 = fold (wsum es) := ⟨_, rfl⟩
  obtain ⟨b1, hb1⟩ : ∃ b1, b1 = fold (wsum ys) := ⟨_, rfl⟩
  have he1l : e1 ≤ 65535 := by rw [he1]; exact fold_le _
  have hb1l : b1 ≤ 65535 := by rw [hb1]; exact fold_le _
  have HJ : Hid (fold [e1, b1].sum = s1) := by
    show _ = _
    rw [HS1.out, he1, hb1]
    simp only [List.sum_cons, List.sum_nil, Nat.add_zero]
    rw [fold_add, Nat.add_comm, fold_add, Nat.add_comm]
  have HE1 := Lib.hid he1
  have HB1 := Lib.hid hb1
  clear he1 hb1 HS1
  go_wp2_with fail
  refine (sum_is (v := e1) HE.out hae (by omega) HE1.out.symm).mono ?_
  rintro e w4 ⟨rfl, hF4⟩
  go_wp2_with fail
  refine (sum_is (v := b1) HY.out (hb.fr hF4 (by simp)) (by omega) HB1.out.symm).mono ?_
  rintro e w5 ⟨rfl, hF5⟩
  replace hF := (hF.trans hF4).trans hF5
  replace ha := (ha.fr hF4 (by simp)).fr hF5 (by simp)
  replace hae := (hae.fr hF4 (by simp)).fr hF5 (by simp)
  have hJ := join_any (some ⟨w5.heap.size, 0, none⟩) 2 2 [e1, b1] _ rfl (by intro x hx; simp at hx; omega) (rd_lit w5 (W16 [e1, b1]) 23) (by omega)
  rw [HJ.out] at hJ
  have hFa : Fr [] w5 (w5.alloc (.cells (W16 [e1, b1]).toArray 23)) := (Fr.refl _ _).alloc _
  replace hF := hF.trans hFa
  replace ha := ha.fr hFa (by simp)
  replace hae := hae.fr hFa (by simp)
  clear hF4 hF5 hb hFa HB1 HB
  go_wp2_with fail
  refine hJ.mono ?_
  rintro e w' ⟨rfl, rfl⟩
  clear hJ HJ
  obtain ⟨w6, hw6⟩ : ∃ w6, w6 = w5.alloc (.cells (W16 [e1, b1]).toArray 23) := ⟨_, rfl⟩
  rw [← hw6] at hF ha hae ⊢
  clear hw6
  have hz0 := rd_new w6 [0] 5
  have hFz : Fr [] w6 ((w6.alloc (.cells (B8 [0]).toArray 5)).alloc (.cells #[.slice A m c, .slice (some ⟨w6.heap.size, 0, none⟩) 1 1] 22)) := ((Fr.refl _ _).alloc _).alloc _
  have hFz2 : Fr [] (w6.alloc (.cells (B8 [0]).toArray 5)) ((w6.alloc (.cells (B8 [0]).toArray 5)).alloc (.cells #[.slice A m c, .slice (some ⟨w6.heap.size, 0, none⟩) 1 1] 22)) := (Fr.refl _ _).alloc _
  have hgz := rd_lit (w6.alloc (.cells (B8 [0]).toArray 5)) [.slice A m c, .slice (some ⟨w6.heap.size, 0, none⟩) 1 1] 22
  rw [World.size_alloc] at hgz
  go_wp2_with fail
  refine (concat2 hgz HX.out rfl (ha.fr hFz (by simp)) (hz0.fr hFz2 (by simp)) HA.out (by simp) (by omega) (by omega)).mono ?_
  rintro e w7 ⟨A7, c7, rfl, ho7, hF7⟩
  replace hF := (hF.trans hFz).trans hF7
  replace ha := (ha.fr hFz (by simp)).fr hF7 (by simp)
  replace hae := (hae.fr hFz (by simp)).fr hF7 (by simp)
  clear hFz hFz2 hgz hz0 hF7
  obtain ⟨a1, ha1⟩ : ∃ a1, a1 = fold (wsum xs) := ⟨_, rfl⟩
  have hz1 : fold (wsum (xs ++ [0])) = a1 := by rw [ha1, wsum_snoc]; simp
  have HA1 := Lib.hid ha1
  have HZ1 := Lib.hid hz1
  clear ha1 hz1
  go_wp2_with fail
  refine (sum_is (v := a1) (by rw [List.length_append, HX.out]; rfl) (Rd.own ho7) (by omega) HZ1.out).mono ?_
  rintro e w8 ⟨rfl, hF8⟩
  go_wp2_with fail
  refine (sum_is (v := a1) HX.out (ha.fr hF8 (by simp)) (by omega) HA1.out.symm).mono ?_
  rintro e w9 ⟨rfl, hF9⟩
  replace hF := (hF.trans hF8).trans hF9
  replace hae := (hae.fr hF8 (by simp)).fr hF9 (by simp)
  clear hF8 hF9 ho7 ha HA1 HZ1
  by_cases hE0 : E = 0
  · have hd1 : decide ((0 : Int) < (E : Int)) = false := by simp; omega
    have hd2 : decide (0 < E) = false := by simp; omega
    subst hE0
    have hAk : Rd w9 A (B8 (es.drop 0)) := hae
    have hnk : A = none → c - 0 = 0 := HA.out
    have hgk : Rd (w9.alloc (.cells #[.slice A 0 c, .slice A 0 c] 22)).drew (some ⟨w9.heap.size, 0, none⟩) [.slice A 0 c, .slice A 0 c] := (rd_lit w9 [.slice A 0 c, .slice A 0 c] 22).alk rfl
    have hFk : Fr [] w9 (w9.alloc (.cells #[.slice A 0 c, .slice A 0 c] 22)).drew := ((Fr.refl _ _).alloc _).drew
    have hC := concat2 hgk (xs := es.drop 0) (ys := es.take 0) (by rw [List.length_drop, HE.out]) (by rw [List.length_take, HE.out]; omega) (hAk.fr hFk (by simp)) ((by rw [← B8_take]; exact hae.take 0 : Rd w9 A (B8 (es.take 0))).fr hFk (by simp)) hnk HA.out (by omega) (by omega)
    have hS : Hid (fold (wsum (es.drop 0 ++ es.take 0)) = e1) := by show _ = _; rw [HTU.out 0 (by omega) (by omega), HE1.out]
    have hL : Hid ((es.drop 0 ++ es.take 0).length = 0 + 0) := by show _ = _; rw [List.length_append, List.length_drop, List.length_take, HE.out]; omega
    replace hF := hF.trans hFk
    have haek := hae.fr hFk (by simp)
    clear hgk hFk hAk hnk hae
    go_wp2_with fail
    go_region_with (first
      | (go_at_call 19; refine hC.mono ?_; rintro e w10 ⟨A10, c10, rfl, ho10, hF10⟩; have hr10 := Rd.own ho10)
      | (go_at_call_of 18 (Value.slice A 0 c); refine (sum_is (v := e1) HE.out ((haek.fr hF10 (by simp)).fr hF11 (by simp)) (by omega) HE1.out.symm).mono ?_; rintro e w12 ⟨rfl, hF12⟩)
      | (go_at_call 18; refine (sum_is (v := e1) hL.out hr10 (by omega) hS.out).mono ?_; rintro e w11 ⟨rfl, hF11⟩))
    all_goals
      go_wp2_with fail
      go_ret
      exact ⟨rfl, ((hF.trans hF10).trans hF11).trans hF12⟩
  · have hd1 : decide ((0 : Int) < (E : Int)) = true := by simp; omega
    have hd2 : decide (0 < E) = true := by simp; omega
    obtain ⟨k, hk⟩ : ∃ k, k = by_ % (E / 2) * 2 := ⟨_, rfl⟩
    have hk2 : k % 2 = 0 ∧ k ≤ E := by
      have := Nat.mod_lt by_ (show 0 < E / 2 by omega)
      generalize by_ % (E / 2) = r at *
      omega
    have hkw : wrap64 ((by_ : Int) % ((E : Int) / 2) * 2) = (k : Int) := by
      have e : (by_ : Int) % ((E : Int) / 2) * 2 = (k : Int) := by rw [hk]; norm_cast
      rw [e]; exact w64 (by omega) (by omega)
    have hk0 : (0 : Int) ≤ (k : Int) := by omega
    have hkE : (k : Int) ≤ (E : Int) := by omega
    have hkc : (k : Int) ≤ (c : Int) := by omega
    clear hk
    have hAk : Rd w9 (if c = k then A else Option.map (fun x => x.add k) A) (B8 (es.drop k)) := rd_ite (fun e => by rw [List.drop_of_length_le (by rw [HE.out]; omega)]; exact Rd.nil _ _) (fun _ => rd_drop' hae k)
    have hnk : (if c = k then A else Option.map (fun x => x.add k) A) = none → c - k = 0 := by
      intro h
      by_cases e : c = k
      · omega
      · rw [if_neg e] at h
        have : A = none := by cases A with | none => rfl | some a => cases h
        have := HA.out this
        omega
    have hgk : Rd (w9.alloc (.cells #[.slice (if c = k then A else Option.map (fun x => x.add k) A) (E - k) (c - k), .slice A k c] 22)).drew (some ⟨w9.heap.size, 0, none⟩) [.slice (if c = k then A else Option.map (fun x => x.add k) A) (E - k) (c - k), .slice A k c] := (rd_lit w9 [.slice (if c = k then A else Option.map (fun x => x.add k) A) (E - k) (c - k), .slice A k c] 22).alk rfl
    have hFk : Fr [] w9 (w9.alloc (.cells #[.slice (if c = k then A else Option.map (fun x => x.add k) A) (E - k) (c - k), .slice A k c] 22)).drew := ((Fr.refl _ _).alloc _).drew
    have hC := concat2 hgk (xs := es.drop k) (ys := es.take k) (by rw [List.length_drop, HE.out]) (by rw [List.length_take, HE.out]; omega) (hAk.fr hFk (by simp)) ((by rw [← B8_take]; exact hae.take k : Rd w9 A (B8 (es.take k))).fr hFk (by simp)) hnk HA.out (by omega) (by omega)
    rw [show E - k + k = E by omega] at hC
    have hS : Hid (fold (wsum (es.drop k ++ es.take k)) = e1) := by show _ = _; rw [HTU.out k (by omega) (by omega), HE1.out]
    have hL : Hid ((es.drop k ++ es.take k).length = E) := by show _ = _; rw [List.length_append, List.length_drop, List.length_take, HE.out]; omega
    replace hF := hF.trans hFk
    have haek := hae.fr hFk (by simp)
    clear hgk hFk hAk hnk hae
    go_wp2_with fail
    go_region_with (first
      | (go_at_call 19; refine hC.mono ?_; rintro e w10 ⟨A10, c10, rfl, ho10, hF10⟩; have hr10 := Rd.own ho10; generalize (if c = k then A else Option.map (fun x => x.add k) A) = AX)
      | (go_at_call_of 18 (Value.slice A E c); refine (sum_is (v := e1) HE.out ((haek.fr hF10 (by simp)).fr hF11 (by simp)) (by omega) HE1.out.symm).mono ?_; rintro e w12 ⟨rfl, hF12⟩)
      | (go_at_call 18; refine (sum_is (v := e1) hL.out hr10 (by omega) hS.out).mono ?_; rintro e w11 ⟨rfl, hF11⟩))
    all_goals
      go_wp2_with fail
      go_ret
      exact ⟨rfl, ((hF.trans hF10).trans hF11).trans hF12⟩
end Go.Proofs.Ytdkpmbefnfdbkaa
