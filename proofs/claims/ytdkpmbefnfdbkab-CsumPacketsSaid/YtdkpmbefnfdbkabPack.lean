/- The walk of CsumPackets. -/
import Derived.Test.YtdkpmbefnfdbkabApl
import Derived.Deep.RegionLaw
namespace Go.Proofs.Ytdkpmbefnfdbkab
open Go.RowKit

theorem mk8 (w : World) : Sem.run Try.prog (Instr.makeSlice 23 (Value.int IntKind.i64 8) (Value.int IntKind.i64 8)) w = .ok (.slice (some ⟨w.heap.size, 0, none⟩) 8 8) (w.alloc (.cells #[.int .u8 0, .int .u8 0, .int .u8 0, .int .u8 0, .int .u8 0, .int .u8 0, .int .u8 0, .int .u8 0] 5)) := by kernel_rfl

/-- What Never makes. -/
def nv (z : Nat) : Nat := if z = 0 then 65535 else z
theorem nv_lt {z : Nat} (h : z < 65536) : nv z < 65536 := by unfold nv; split <;> omega
theorem never_any (z : Nat) (w : World) : Calls Try.prog 8 #[.int .u16 z] w fun e w' => e = .returned (.int .u16 (nv z : Nat)) ∧ w = w' := by
  by_cases h : z = 0
  · subst h; exact never_0 w
  · rw [show nv z = z by unfold nv; rw [if_neg h]]; exact never_n z (by omega) w
theorem pack_full {T c : Nat} (hT : 0 < T) (hc : c = 65535 - fold T ∨ c = nv (65535 - fold T)) : fold (T + c) = 65535 := by
  have h1 := fold_le T
  have h2 := fold_mod T
  have h3 := fold_zero (s := T)
  rw [fold_full]
  unfold nv at hc
  generalize fold T = f at *
  split at hc <;> omega
theorem pack_sums {p S0 S c : Nat} (hp : p ≠ 0) (hS : S = S0 + c) (hc : c = 65535 - fold (p + S0) ∨ c = nv (65535 - fold (p + S0))) : fold [p, fold S].sum = 65535 ∧ 65535 - fold (p + S) = 0 := by
  have h := pack_full (T := p + S0) (by omega) hc
  have e : p + S = p + S0 + c := by omega
  simp only [List.sum_cons, List.sum_nil, Nat.add_zero]
  rw [Nat.add_comm p (fold S), fold_add, Nat.add_comm S p, e, h]
  exact ⟨rfl, rfl⟩

theorem zero3 (a b c : Nat) : ((a : Int) == 0) = false ∨ (((a : Int) == 0) = true ∧ ((b : Int) == 0) = false) ∨ (((a : Int) == 0) = true ∧ ((b : Int) == 0) = true ∧ ((c : Int) == 0) = false) ∨ (((a : Int) == 0) = true ∧ ((b : Int) == 0) = true ∧ ((c : Int) == 0) = true) := by
  cases ((a : Int) == 0) <;> cases ((b : Int) == 0) <;> cases ((c : Int) == 0) <;> simp

set_option maxRecDepth 100000 in
set_option maxHeartbeats 8000000 in
theorem cpackets_any (src dst proto : Nat) (A : Option Addr) (n c m : Nat) (ys : List UInt8) (at_ : Nat) (w : World) (hm : (n ≤ 2992 ∧ m = n) ∨ (¬ n ≤ 2992 ∧ m = 2992)) (hl : ys.length = m) (hrd : Rd w A (B8 ys)) (hnil : A = none → c = 0) (hnc : n ≤ c)
    (h1 : src < 4294967296) (h2 : dst < 4294967296) (h3 : proto < 256) (ha : at_ < 65536) :
    Calls Try.prog 3 #[.int .u32 src, .int .u32 dst, .int .u8 proto, .slice A n c, .int .u16 at_] w fun e w' => e = .returned (.bool true) ∧ Fr [] w w' := by
  have HL := Lib.hid hl
  have HNIL := Lib.hid hnil
  have hm2 : m ≤ 2992 ∧ m ≤ n := by omega
  have hmin := min_is (M := 2992) rfl hm
  clear hm
  obtain ⟨N, hN⟩ : ∃ N, N = 8 + m := ⟨_, rfl⟩
  have HN := Lib.hid hN
  have hN2 : 8 ≤ N ∧ N ≤ 3000 := by omega
  clear hl hnil hN
  go_enter Try.func3, Try.ntmps3
  go_wp2_with fail
  refine (awake_any w).mono ?_
  rintro e w1 ⟨rfl, hF⟩
  have hr1 := hrd.fr hF (by simp)
  obtain ⟨v2, w2, hrun, ho2, hF2⟩ := app_lit [0, 0, 0, 0, 0, 0, 0, 0] ys 8 _ c A w1.drew HL.out rfl (hr1.alk rfl) HNIL.out (by omega) (by omega)
  rw [← HN.out] at ho2
  have hF1 := hF
  replace hF := hF.drew.trans hF2
  obtain ⟨g, cc, rfl, hg, hcc, hcm⟩ := own_some ho2 (by omega)
  replace hrun : (Builtin.append_ #[23, 23] 23 #[.slice (some ⟨w1.heap.size, 0, none⟩) 8 8, .slice A m c]).run Try.prog (w1.alloc (.cells #[.int .u8 0, .int .u8 0, .int .u8 0, .int .u8 0, .int .u8 0, .int .u8 0, .int .u8 0, .int .u8 0] 5)).drew = _ := hrun
  have hmk := mk8 w1.drew
  have hmc : m ≤ c := by omega
  go_wp2_with fail
  go_region_law (refine step_app rfl _ _ _ rfl hrun rfl rfl ?_)
  all_goals
    clear hrun hmk hmc hr1 hF2
    obtain ⟨B0, hB0⟩ : ∃ B0, B0 = w1.drew.heap.size := ⟨_, rfl⟩
    rw [← hB0] at ho2 hg
    have hgw : w.heap.size ≤ g := by have := hF1.size; rw [hB0] at hg; exact Nat.le_trans this hg
    clear hB0
    obtain ⟨i, hi⟩ : ∃ i, i = at_ % (N / 2) * 2 := ⟨_, rfl⟩
    have hq : 1 ≤ N / 2 ∧ N / 2 * 2 ≤ N := by omega
    have hi2 : i % 2 = 0 ∧ i + 2 ≤ N := by
      have := Nat.mod_lt at_ (show 0 < N / 2 by omega)
      generalize at_ % (N / 2) = r at *
      omega
    have hiw : wrap64 ((at_ : Int) % ((N : Int) / 2) * 2) = (i : Int) := by
      have e : (at_ : Int) % ((N : Int) / 2) * 2 = (i : Int) := by rw [hi]; norm_cast
      rw [e]; exact w64 (by omega) (by omega)
    clear hi hq
    generalize hbs : [0, 0, 0, 0, 0, 0, 0, 0] ++ ys = bs at ho2
    have hbl : bs.length = N := by rw [← hbs, HN.out, ← HL.out]; simp; omega
    clear hbs
    have HBL := Lib.hid hbl
    clear hbl
    have hfz := own_fz ho2
    have hf1 := hfz i
    have hf2 := hfz (i + 1)
    obtain ⟨x, hx⟩ := get_ex (xs := bs) (k := i) (by rw [HBL.out]; omega)
    obtain ⟨y, hy⟩ := get_ex (xs := bs) (k := i + 1) (by rw [HBL.out]; omega)
    have hd1 := own_cell ho2 (j := i) (u := .int .u8 x.toNat) (by rw [B8_get, hx]; rfl)
    have hd2 := own_cell ho2 (j := i + 1) (u := .int .u8 y.toNat) (by rw [B8_get, hy]; rfl)
    have hO := own_set (own_set ho2 i (.int .u8 0)) (i + 1) (.int .u8 0)
    rw [B8_set _ i (hi8 0) (by rfl), B8_set _ (i + 1) (lo8 0) (by rfl), set_set _ _ _ _ (by rw [HBL.out]; exact hi2.2)] at hO
    have HO : Hid (((w2.setCell ⟨g, i, none⟩ (.int .u8 0)).setCell ⟨g, i + 1, none⟩ (.int .u8 0)).ownsRow B0 5 1 (.slice (some ⟨g, 0, none⟩) N cc) N (B8 (put2 bs i 0))) := hO
    replace hF : Fr [] w ((w2.setCell ⟨g, i, none⟩ (.int .u8 0)).setCell ⟨g, i + 1, none⟩ (.int .u8 0)) := (hF.setCell (.inr hgw) _).setCell (.inr hgw) _
    have hi0 : (0 : Int) ≤ (i : Int) ∧ (i : Int) < (N : Int) := by omega
    have hi3 : (0 : Int) ≤ (i : Int) + 1 ∧ (i : Int) + 1 < (N : Int) := by omega
    have hi4 : ((i : Int) + 1).toNat = i + 1 := by omega
    have hi1 : IntKind.i64.wrap ((i : Int) + 1) = (i : Int) + 1 := IntWalk.i64_in _ (by omega)
    have hS0 := fun (v : Nat) (hv : v < 65536) => wsum_put2 (v := v) hi2.1 hv hx hy
    have HS0 : Hid (∀ v : Nat, v < 65536 → wsum (put2 bs i v) = wsum (put2 bs i 0) + v) := by
      show ∀ _, _
      intro v hv
      have e1 := hS0 v hv
      have e2 := hS0 0 (by decide)
      omega
    clear hO hfz hx hy ho2 hS0
    go_wp2_with fail
    generalize (w2.setCell ⟨g, i, none⟩ (.int .u8 0)).setCell ⟨g, i + 1, none⟩ (.int .u8 0) = w3 at HO hF ⊢
    have ho := HO.out
    clear HO hd1 hd2 hf1 hf2
    refine (pseudo_yes src dst proto N w3 h1 h2 h3 (by omega)).mono ?_
    rintro e w4 ⟨rfl, hF4⟩
    replace hF := hF.trans hF4
    replace ho := hF4.own ho (by simp)
    have hp : psd src dst proto N < 65536 := by have := fold_le (src / 65536 + src % 65536 + dst / 65536 + dst % 65536 + proto + N); unfold psd; omega
    have hp0 : psd src dst proto N ≠ 0 := by unfold psd; rw [Ne, fold_zero]; omega
    generalize psd src dst proto N = p at hp hp0
    clear hF4
    go_wp2_with fail
    obtain ⟨c1, hc1⟩ : ∃ c1, c1 = 65535 - fold (p + wsum (put2 bs i 0)) := ⟨_, rfl⟩
    have c1l : c1 < 65536 := by omega
    have hO1 := fun W (h : Fr [] w4 W) => over_any p (some ⟨g, 0, none⟩) N cc (put2 bs i 0) W hp (by rw [put2_length (by rw [HBL.out]; exact hi2.2), HBL.out]) ((Rd.own ho).fr h (by simp)) (by omega)
    rw [← hc1] at hO1
    have HC1 := Lib.hid hc1
    clear hc1
    refine (hO1 w4 (Fr.refl _ _)).mono ?_
    rintro e w5 ⟨rfl, hF5⟩
    go_wp2_with fail
    refine (hO1 w5 hF5).mono ?_
    rintro e w6 ⟨rfl, hF6⟩
    replace hF := (hF.trans hF5).trans hF6
    replace ho := hF6.own (hF5.own ho (by simp)) (by simp)
    clear hO1 hF5 hF6
    go_wp2_with fail
    obtain ⟨c2, hc2⟩ : ∃ c2, c2 = nv c1 := ⟨_, rfl⟩
    have c2l : c2 < 65536 := by rw [hc2]; exact nv_lt c1l
    have hN1 := never_any c1 w6
    rw [← hc2] at hN1
    have HC2 : Hid (c2 = nv (65535 - fold (p + wsum (put2 bs i 0)))) := by show _ = _; rw [← HC1.out]; exact hc2
    refine hN1.mono ?_
    clear hN1 hc2
    rintro e w' ⟨rfl, rfl⟩
    have hgc : g ≠ w6.heap.size := by have := (ho.lt g rfl).2; omega
    have hcl := rd_lit w6 (W16 [c1, c2]) 24
    have hFa : Fr [] w6 (w6.alloc (.cells (W16 [c1, c2]).toArray 24)) := (Fr.refl _ _).alloc _
    replace hF := hF.trans hFa
    replace ho := hFa.own ho (by simp)
    have hk1 : (w6.alloc (.cells (W16 [c1, c2]).toArray 24)).cell? ⟨w6.heap.size, 0, none⟩ = some (.int .u16 c1) := rdc hcl 0 _ rfl
    clear hFa
    go_wp2_with fail
    refine wp_loop_rounds 3 ?_
    rw [rounds_succ]
    change Code.wp _ _ _ _ (w6.alloc (.cells (W16 [c1, c2]).toArray 24))
    obtain ⟨w7, hw7⟩ : ∃ w7, w7 = w6.alloc (.cells (W16 [c1, c2]).toArray 24) := ⟨_, rfl⟩
    rw [← hw7] at hcl hF ho hk1 ⊢
    clear hw7
    have hSS1 := pack_sums hp0 (HS0.out c1 c1l) (.inl HC1.out)
    have hfz1 := own_fz ho
    have hf11 := hfz1 i
    have hf21 := hfz1 (i + 1)
    obtain ⟨x1, hx1⟩ := get_ex (xs := put2 bs i 0) (k := i) (by rw [put2_length (by rw [HBL.out]; exact hi2.2), HBL.out]; omega)
    obtain ⟨y1, hy1⟩ := get_ex (xs := put2 bs i 0) (k := i + 1) (by rw [put2_length (by rw [HBL.out]; exact hi2.2), HBL.out]; omega)
    have hd11 := own_cell ho (j := i) (u := .int .u8 x1.toNat) (by rw [B8_get, hx1]; rfl)
    have hd21 := own_cell ho (j := i + 1) (u := .int .u8 y1.toNat) (by rw [B8_get, hy1]; rfl)
    have hO := own_set (own_set ho i (.int .u8 ((c1 : Int) / 256))) (i + 1) (.int .u8 ((c1 : Int) % 256))
    rw [B8_set _ i (hi8 c1) (by rw [hi8_val c1l]; omega), B8_set _ (i + 1) (lo8 c1) (by rw [lo8_val]; omega), set_set _ _ _ _ (by rw [put2_length (by rw [HBL.out]; exact hi2.2), HBL.out]; exact hi2.2)] at hO
    have HO : Hid (((w7.setCell ⟨g, i, none⟩ (.int .u8 ((c1 : Int) / 256))).setCell ⟨g, i + 1, none⟩ (.int .u8 ((c1 : Int) % 256))).ownsRow B0 5 1 (.slice (some ⟨g, 0, none⟩) N cc) N (B8 (put2 (put2 bs i 0) i c1))) := hO
    replace hF : Fr [] w ((w7.setCell ⟨g, i, none⟩ (.int .u8 ((c1 : Int) / 256))).setCell ⟨g, i + 1, none⟩ (.int .u8 ((c1 : Int) % 256))) := (hF.setCell (.inr hgw) _).setCell (.inr hgw) _
    have hFc1 : Fr [g] w7 ((w7.setCell ⟨g, i, none⟩ (.int .u8 ((c1 : Int) / 256))).setCell ⟨g, i + 1, none⟩ (.int .u8 ((c1 : Int) % 256))) := ((Fr.refl _ _).setCell (.inl (by simp)) _).setCell (.inl (by simp)) _
    have hcl1 := hcl.fr hFc1 (by intro ad e; injection e with e; subst e; simpa using hgc.symm)
    have hv11 : IntKind.u8.wrap ((c1 : Int) / 256) = (c1 : Int) / 256 := u8_in (by omega) (by omega)
    have hv21 : IntKind.u8.wrap (c1 : Int) = (c1 : Int) % 256 := u8_mod
    clear hO hfz1 hx1 hy1 ho hFc1 hcl
    go_wp2_with fail
    generalize (w7.setCell ⟨g, i, none⟩ (.int .u8 ((c1 : Int) / 256))).setCell ⟨g, i + 1, none⟩ (.int .u8 ((c1 : Int) % 256)) = w8 at HO hF hcl1 ⊢
    have ho := HO.out
    rw [put2_put2 _ _ _ _ (by rw [HBL.out]; exact hi2.2)] at ho
    clear HO hd11 hd21 hf11 hf21 hv11 hv21
    have hS1 := sum_any (some ⟨g, 0, none⟩) N cc (put2 bs i c1) w8 (by rw [put2_length (by rw [HBL.out]; exact hi2.2), HBL.out]) (Rd.own ho) (by omega)
    have hE1 := Lib.hid hSS1.1
    have hZ1 := Lib.hid hSS1.2
    have hsl1 := fold_le (wsum (put2 bs i c1))
    clear hSS1
    generalize fold (wsum (put2 bs i c1)) = s1 at hS1 hE1 hsl1
    refine hS1.mono ?_
    clear hS1
    rintro e w8a ⟨rfl, hF1⟩
    replace hF := hF.trans hF1
    replace ho := hF1.own ho (by simp)
    have hcl := hcl1.fr hF1 (by simp)
    clear hF1 hcl1
    have hJ1 := join_any (some ⟨w8a.heap.size, 0, none⟩) 2 2 [p, s1] _ rfl (by intro x hx; simp at hx; omega) (rd_lit w8a (W16 [p, s1]) 24) (by omega)
    rw [hE1.out] at hJ1
    have hFa1 : Fr [] w8a (w8a.alloc (.cells (W16 [p, s1]).toArray 24)) := (Fr.refl _ _).alloc _
    replace hF := hF.trans hFa1
    replace ho := hFa1.own ho (by simp)
    replace hcl := hcl.fr hFa1 (by simp)
    clear hFa1 hE1
    go_wp2_with fail
    refine hJ1.mono ?_
    rintro e w' ⟨rfl, rfl⟩
    clear hJ1
    go_wp2_with fail
    have hV1 := over_any p (some ⟨g, 0, none⟩) N cc (put2 bs i c1) (w8a.alloc (.cells (W16 [p, s1]).toArray 24)) hp (by rw [put2_length (by rw [HBL.out]; exact hi2.2), HBL.out]) (Rd.own ho) (by omega)
    rw [hZ1.out] at hV1
    refine hV1.mono ?_
    clear hV1 hZ1
    rintro e w8b ⟨rfl, hF1⟩
    replace hF := hF.trans hF1
    replace ho := hF1.own ho (by simp)
    replace hcl := hcl.fr hF1 (by simp)
    clear hF1 hsl1
    have hk2 : w8b.cell? ⟨w6.heap.size, 1, none⟩ = some (.int .u16 c2) := rdc hcl 1 _ rfl
    go_wp2_with fail
    rw [rounds_succ]
    have hSS2 := pack_sums hp0 (HS0.out c2 c2l) (.inr HC2.out)
    have hfz2 := own_fz ho
    have hf12 := hfz2 i
    have hf22 := hfz2 (i + 1)
    obtain ⟨x2, hx2⟩ := get_ex (xs := put2 bs i c1) (k := i) (by rw [put2_length (by rw [HBL.out]; exact hi2.2), HBL.out]; omega)
    obtain ⟨y2, hy2⟩ := get_ex (xs := put2 bs i c1) (k := i + 1) (by rw [put2_length (by rw [HBL.out]; exact hi2.2), HBL.out]; omega)
    have hd12 := own_cell ho (j := i) (u := .int .u8 x2.toNat) (by rw [B8_get, hx2]; rfl)
    have hd22 := own_cell ho (j := i + 1) (u := .int .u8 y2.toNat) (by rw [B8_get, hy2]; rfl)
    have hO := own_set (own_set ho i (.int .u8 ((c2 : Int) / 256))) (i + 1) (.int .u8 ((c2 : Int) % 256))
    rw [B8_set _ i (hi8 c2) (by rw [hi8_val c2l]; omega), B8_set _ (i + 1) (lo8 c2) (by rw [lo8_val]; omega), set_set _ _ _ _ (by rw [put2_length (by rw [HBL.out]; exact hi2.2), HBL.out]; exact hi2.2)] at hO
    have HO : Hid (((w8b.setCell ⟨g, i, none⟩ (.int .u8 ((c2 : Int) / 256))).setCell ⟨g, i + 1, none⟩ (.int .u8 ((c2 : Int) % 256))).ownsRow B0 5 1 (.slice (some ⟨g, 0, none⟩) N cc) N (B8 (put2 (put2 bs i c1) i c2))) := hO
    replace hF : Fr [] w ((w8b.setCell ⟨g, i, none⟩ (.int .u8 ((c2 : Int) / 256))).setCell ⟨g, i + 1, none⟩ (.int .u8 ((c2 : Int) % 256))) := (hF.setCell (.inr hgw) _).setCell (.inr hgw) _
    have hFc2 : Fr [g] w8b ((w8b.setCell ⟨g, i, none⟩ (.int .u8 ((c2 : Int) / 256))).setCell ⟨g, i + 1, none⟩ (.int .u8 ((c2 : Int) % 256))) := ((Fr.refl _ _).setCell (.inl (by simp)) _).setCell (.inl (by simp)) _
    have hcl2 := hcl.fr hFc2 (by intro ad e; injection e with e; subst e; simpa using hgc.symm)
    have hv12 : IntKind.u8.wrap ((c2 : Int) / 256) = (c2 : Int) / 256 := u8_in (by omega) (by omega)
    have hv22 : IntKind.u8.wrap (c2 : Int) = (c2 : Int) % 256 := u8_mod
    clear hO hfz2 hx2 hy2 ho hFc2 hcl
    go_wp2_with fail
    generalize (w8b.setCell ⟨g, i, none⟩ (.int .u8 ((c2 : Int) / 256))).setCell ⟨g, i + 1, none⟩ (.int .u8 ((c2 : Int) % 256)) = w9 at HO hF hcl2 ⊢
    have ho := HO.out
    rw [put2_put2 _ _ _ _ (by rw [HBL.out]; exact hi2.2)] at ho
    clear HO hd12 hd22 hf12 hf22 hv12 hv22
    have hS2 := sum_any (some ⟨g, 0, none⟩) N cc (put2 bs i c2) w9 (by rw [put2_length (by rw [HBL.out]; exact hi2.2), HBL.out]) (Rd.own ho) (by omega)
    have hE2 := Lib.hid hSS2.1
    have hZ2 := Lib.hid hSS2.2
    have hsl2 := fold_le (wsum (put2 bs i c2))
    clear hSS2
    generalize fold (wsum (put2 bs i c2)) = s2 at hS2 hE2 hsl2
    refine hS2.mono ?_
    clear hS2
    rintro e w9a ⟨rfl, hF2⟩
    replace hF := hF.trans hF2
    replace ho := hF2.own ho (by simp)
    have hcl := hcl2.fr hF2 (by simp)
    clear hF2 hcl2
    have hJ2 := join_any (some ⟨w9a.heap.size, 0, none⟩) 2 2 [p, s2] _ rfl (by intro x hx; simp at hx; omega) (rd_lit w9a (W16 [p, s2]) 24) (by omega)
    rw [hE2.out] at hJ2
    have hFa2 : Fr [] w9a (w9a.alloc (.cells (W16 [p, s2]).toArray 24)) := (Fr.refl _ _).alloc _
    replace hF := hF.trans hFa2
    replace ho := hFa2.own ho (by simp)
    replace hcl := hcl.fr hFa2 (by simp)
    clear hFa2 hE2
    go_wp2_with fail
    refine hJ2.mono ?_
    rintro e w' ⟨rfl, rfl⟩
    clear hJ2
    go_wp2_with fail
    have hV2 := over_any p (some ⟨g, 0, none⟩) N cc (put2 bs i c2) (w9a.alloc (.cells (W16 [p, s2]).toArray 24)) hp (by rw [put2_length (by rw [HBL.out]; exact hi2.2), HBL.out]) (Rd.own ho) (by omega)
    rw [hZ2.out] at hV2
    refine hV2.mono ?_
    clear hV2 hZ2
    rintro e w9b ⟨rfl, hF2⟩
    replace hF := hF.trans hF2
    replace ho := hF2.own ho (by simp)
    replace hcl := hcl.fr hF2 (by simp)
    clear hF2 hsl2
    go_wp2_with fail
    rw [rounds_succ]
    go_wp2_with fail
    refine (never_0 _).mono ?_
    rintro e w' ⟨rfl, rfl⟩
    have hpz : ((p : Int) == 0) = false := by rw [beq_eq_false_iff_ne]; omega
    have hNz : ((N : Int) == 0) = false := by rw [beq_eq_false_iff_ne]; omega
    clear hp0 hcl ho
    rcases zero3 src dst proto with hz | ⟨hz, hy⟩ | ⟨hz, hy, hx⟩ | ⟨hz, hy, hx⟩
  all_goals
    go_wp2_with fail
    go_ret
    exact ⟨rfl, hF⟩
end Go.Proofs.Ytdkpmbefnfdbkab
