/- IpBit. -/
import Derived.Test.YtjpcfphmejenoaaIpbm
import Derived.StillTailTactics
namespace Go.Proofs.Ytjpcfphmejenoaa
open Go.RowKit
set_option linter.unusedVariables false
set_option maxRecDepth 100000

set_option maxHeartbeats 4000000 in
theorem bit_any (b : List Nat) (wo fa ma : Nat) (df mf : Bool) (A0 : Option Addr) (n0 c0 : Nat) (xs0 : List UInt8) (z : Nat) (w : World) (s0 : b.length = 12 ∧ (∀ x ∈ b, x < 256) ∧ wo < 256 ∧ fa < 256 ∧ ma < 256 ∧ xs0.length = n0 ∧ Rd w A0 (B8 xs0) ∧ (A0 = none → c0 = 0) ∧ n0 ≤ c0 ∧ c0 ≤ maxLen) (hz : z < 65536) :
    Calls Try.prog 7 #[SV b wo fa ma df mf A0 n0 c0, .int .u16 z] w fun e w' => e = .returned (.bool true) ∧ Fr [] w w' := by
  obtain ⟨hb12, hb, hwo, hfa, hma, hl, hrd, hnil, hnc, hcm⟩ := s0
  have hg : ∀ k, b.getD k 0 < 256 := fun k => by
    by_cases h : k < b.length
    · rw [List.getD_eq_getElem?_getD, List.getElem?_eq_getElem h]; exact hb _ (List.getElem_mem h)
    · rw [List.getD_eq_getElem?_getD, List.getElem?_eq_none (by omega)]; decide
  have cM := fun W (hW : Fr [] w W) => made5 b wo fa ma df mf A0 n0 c0 xs0 W hg hwo hfa hma hl (hrd.fr hW (by simp)) hnil hnc (by simp only [maxLen] at hcm; omega)
  unfold SV at cM ⊢
  generalize b.getD 0 0 = b0 at cM ⊢
  generalize b.getD 1 0 = b1 at cM ⊢
  generalize b.getD 2 0 = b2 at cM ⊢
  generalize b.getD 3 0 = b3 at cM ⊢
  generalize b.getD 4 0 = b4 at cM ⊢
  generalize b.getD 5 0 = b5 at cM ⊢
  generalize b.getD 6 0 = b6 at cM ⊢
  generalize b.getD 7 0 = b7 at cM ⊢
  generalize b.getD 8 0 = b8 at cM ⊢
  generalize b.getD 9 0 = b9 at cM ⊢
  generalize b.getD 10 0 = b10 at cM ⊢
  generalize b.getD 11 0 = b11 at cM ⊢
  have cA := fun W => awake5 W
  have CM := Lib.hid cM
  have CA := Lib.hid cA
  clear cM cA hl hrd hnil hg hb hb12 hnc hcm hwo hfa hma
  have hX0 : Blk (w.alloc (.cells #[.int .u8 b0, .int .u8 b1, .int .u8 b2, .int .u8 b3, .int .u8 b4, .int .u8 b5, .int .u8 b6, .int .u8 b7, .int .u8 b8, .int .u8 b9, .int .u8 b10, .int .u8 b11, .int .u8 wo, .int .u8 fa, .int .u8 ma, .bool df, .bool mf, .slice A0 n0 c0] 25)) w.heap.size #[.int .u8 b0, .int .u8 b1, .int .u8 b2, .int .u8 b3, .int .u8 b4, .int .u8 b5, .int .u8 b6, .int .u8 b7, .int .u8 b8, .int .u8 b9, .int .u8 b10, .int .u8 b11, .int .u8 wo, .int .u8 fa, .int .u8 ma, .bool df, .bool mf, .slice A0 n0 c0] 25 := blk_new w _ _ rfl
  have hF0 : Fr [] w (w.alloc (.cells #[.int .u8 b0, .int .u8 b1, .int .u8 b2, .int .u8 b3, .int .u8 b4, .int .u8 b5, .int .u8 b6, .int .u8 b7, .int .u8 b8, .int .u8 b9, .int .u8 b10, .int .u8 b11, .int .u8 wo, .int .u8 fa, .int .u8 ma, .bool df, .bool mf, .slice A0 n0 c0] 25)) := (Fr.refl _ _).alloc _
  have HX0 := Lib.hid hX0
  clear hX0
  go_enter Try.func7, Try.ntmps7
  go_wp2_with fail
  refine (CA.out _).mono ?_
  rintro e wa ⟨rfl, hFa⟩
  have hX1 := HX0.out.fr hFa (by simp)
  have HX1 := Lib.hid hX1
  replace hFa := hF0.trans hFa
  clear hX1 HX0 hF0 CA
  go_wp2_with (refine wpList_load_row rfl 25 _ rfl w.heap.size rfl _ _ _ _ HX1.out Try.underlying25 rfl (by kernel_rfl) ?_)
  refine (CM.out _ hFa).mono ?_
  rintro e w1 ⟨h, A, n, c, d, A2, m, c2, rfl, f, hd, hm80, hlo, hrdo, hniA, hnc, hrdd, hnil2, hmc2, hcm2, hF1⟩
  clear HX1 CM
  replace hF1 := hFa.trans hF1
  clear hFa
  have hLN : (wrN h d).length = 20 + n + m := by rw [wrN_length]; omega
  have fo := f.o
  have hn40 : n ≤ 40 := by omega
  have cW := fun W (hW : Fr [] w1 W) => write_yes h d A A2 n c m c2 W hlo (hrdo.fr hW (by simp)) hniA hd (hrdd.fr hW (by simp)) hnil2 f
  have fs : Fits h d.length := by rw [hd]; exact f
  have hg := good_wr fs []
  rw [List.append_nil] at hg
  obtain ⟨hg1, hg2, hg3, hg4⟩ := hg
  obtain ⟨N, hN⟩ : ∃ N, N = 20 + n + m := ⟨_, rfl⟩
  obtain ⟨S, hS⟩ : ∃ S, S = 20 + n := ⟨_, rfl⟩
  rw [hlo, ← hS] at hg3
  have hB := fun j (h4 : 4 ≤ j) (h8 : j < 8) => bit_version hg1 h4 h8
  have hC := fun k j (h8 : j < 8) (h1 : 1 ≤ k) (hk : k < S) => bit_head hg1 h8 h1 (show k < szN (wrN h d) by rw [hg3]; exact hk)
  have hD : ∀ k y, S ≤ k → Good ((wrN h d).set k y) ∧ hdOf ((wrN h d).set k y) = h ∧ szN ((wrN h d).set k y) = S ∧ totN ((wrN h d).set k y) = N := by
    intro k y hk
    rw [set_data h d y (by omega), hlo, ← hS]
    have fs' : Fits h (d.set (k - S) y).length := by rw [List.length_set]; exact fs
    have hg := good_wr fs' []
    rw [List.append_nil, List.length_set, hlo, ← hS, hd, show S + m = N by omega] at hg
    exact hg
  rw [← hN] at hLN
  have hNb : N ≤ 140 := by omega
  have hN20 : S ≤ N := by omega
  have hS20 : 20 ≤ S := by omega
  have hS1 : (20 : Int) + (n : Int) = (S : Int) := by omega
  unfold WrYes at cW
  rw [hLN] at cW
  generalize wrN h d = L at cW hLN hB hC hD hg1 hg2 hg3 hg4
  unfold HV at cW ⊢
  have CW := Lib.hid cW
  have HBB := Lib.hid hB
  have HCC := Lib.hid hC
  have HDD := Lib.hid hD
  have hSn : S - 20 = n := by omega
  have HSN := Lib.hid hSn
  clear hSn
  have HLO := Lib.hid hlo
  have HLN := Lib.hid hLN
  have HRO := Lib.hid hrdo
  clear cW hB hC hD hg1 hg2 hg3 hg4 hlo hd hLN hrdo hrdd hniA hnil2 f fs hN hS fo
  have hFx : Fr [] w1 (w1.alloc (.cells #[.int .u8 h.tos, .int .u16 h.id, .bool h.df, .bool h.mf, .int .i64 h.off, .int .u8 h.ttl, .int .u8 h.proto, .int .u32 h.src, .int .u32 h.dst, .slice A n c] 30)) := (Fr.refl _ _).alloc _
  have hBx : BoxH (w1.alloc (.cells #[.int .u8 h.tos, .int .u16 h.id, .bool h.df, .bool h.mf, .int .i64 h.off, .int .u8 h.ttl, .int .u8 h.proto, .int .u32 h.src, .int .u32 h.dst, .slice A n c] 30)) w1.heap.size h A n c := heap_alloc_new w1 _
  have HBX := Lib.hid hBx
  clear hBx
  go_wp2_with fail
  refine (CW.out _ hFx).mono ?_
  rintro e w2 ⟨g, cb, rfl, o2, hF2⟩
  replace hFx := hFx.trans hF2
  have hB2 := HBX.out.fr hF2 (by simp)
  have s9 := hB2.c9
  have HB2 := Lib.hid hB2
  have hcb := own_cc o2
  have hlg := (o2.lt g rfl).1
  have hgb : w1.heap.size < g := by simp at hlg; omega
  clear hB2 hF2 HBX CW hlg
  obtain ⟨p, hp⟩ : ∃ p, p = z % (8 * N) := ⟨_, rfl⟩
  have hpl : p < 8 * N := by rw [hp]; exact Nat.mod_lt _ (by omega)
  have t1 : (z : Int).tmod (8 * (N : Int)) = (p : Int) := by rw [Int.tmod_eq_emod_of_nonneg (by omega), hp]; simp
  have t2 : (z : Int) % (8 * (N : Int)) = (p : Int) := by rw [hp]; simp
  have t3 : ¬ (8 * (N : Int)) = 0 := by omega
  have t4 : ((8 * (N : Int)) == 0) = false := by rw [beq_eq_false_iff_ne]; omega
  clear hp
  obtain ⟨k, hk⟩ : ∃ k, k = p / 8 := ⟨_, rfl⟩
  obtain ⟨j, hj⟩ : ∃ j, j = p % 8 := ⟨_, rfl⟩
  have hkN : k < N := by omega
  have hj8 : j < 8 := by omega
  have u1 : (p : Int).tdiv 8 = (k : Int) := by rw [Int.tdiv_eq_ediv_of_nonneg (by omega)]; omega
  have u2 : (p : Int) / 8 = (k : Int) := by omega
  have u3 : (p : Int).tmod 8 = (j : Int) := by rw [Int.tmod_eq_emod_of_nonneg (by omega)]; omega
  have u4 : (p : Int) % 8 = (j : Int) := by omega
  have hpk : p = 8 * k + j := by omega
  clear hk hj
  have HPK := Lib.hid hpk
  clear hpk
  have O2 := Lib.hid o2
  have HFX := Lib.hid hFx
  clear o2 hFx
  by_cases hA : p < 4
  · have hj4 : j < 4 := by have := HPK.out; omega
    have hp8 : p < 8 := by omega
    go_wp2_with fail
    go_ret
    exact ⟨rfl, hF1.trans HFX.out⟩

  by_cases hBc : p < 8
  · have hj4 : 4 ≤ j := by have := HPK.out; omega
    have hnj : ¬ j < 4 := by omega
    have hk0 : k = 0 := by have := HPK.out; omega
    have hf : faultN (L.set k (UInt8.ofNat (bt L k ^^^ 2 ^ j))) = 51 := by rw [hk0]; exact HBB.out j hj4 hj8
    have HFT := Lib.hid hf
    clear hf hk0 HBB HCC HDD

    go_wp2_with fail
    have o3 := (Fr.refl [] w2).drew.own O2.out (by simp)
    have hF3 := HFX.out.drew
    have hB3 := HB2.out.fr (Fr.refl [] w2).drew (by simp)
    obtain ⟨x, hx, ex⟩ := bt_get (xs := L) (k := k) (by rw [HLN.out]; exact hkN)
    have hfl := flip8 (bt L k) (bt_lt _ _) j hj8
    obtain ⟨Y, hY⟩ : ∃ Y, Y = bt L k ^^^ 2 ^ j := ⟨_, rfl⟩
    have q0 : w2.drew.cell? ⟨g, k, none⟩ = some (.int .u8 (bt L k : Nat)) := own_cell o3 (j := k) (by rw [B8_get, hx, ← ex]; rfl)
    have z0 := own_fz o3 k
    have o4 := own_set o3 k (.int .u8 Y)
    rw [B8_set L k (UInt8.ofNat Y) (by rw [u8_nat (by rw [hY]; exact hfl.1)])] at o4
    have i0 : (k : Int) < (N : Int) := by omega
    have wk : IntKind.i64.wrap (k : Int) = (k : Int) := IntWalk.i64_in _ (by omega)
    have wj : IntKind.i64.wrap (j : Int) = (j : Int) := IntWalk.i64_in _ (by omega)
    have sh8 : ∀ j < 8, 2 ^ j < 256 := by decide
    obtain ⟨P, hP⟩ : ∃ P : Nat, P = 2 ^ j := ⟨_, rfl⟩
    have hP8 : P < 256 := by rw [hP]; exact sh8 j hj8
    have xo : bits .xor .u8 ((bt L k : Nat) : Int) (P : Int) = (Y : Int) := by rw [xor8 _ _ (bt_lt _ _) hP8, hY, hP]
    have wp : IntKind.u8.wrap ((2 : Int) ^ j) = (P : Int) := by
      have e : (2 : Int) ^ j = ((2 ^ j : Nat) : Int) := by simp
      rw [e, ← hP, u8_mod]; omega
    have HYY := Lib.hid hY
    clear hx ex hfl hP hY sh8
    generalize hX : bt L k = X at q0 xo
    have O4 := Lib.hid o4
    have HF3 := Lib.hid hF3
    have HB3 := Lib.hid hB3
    clear o4 o3 hF3 hB3 O2 HB2 HFX s9 hX
    refine wp_region_still_tail 10 (by kernel_rfl) (by kernel_rfl) ?_
    have e3 : ({ w2 with drawn := w2.drawn + 1 } : World) = w2.drew := rfl
    rw [e3]
    clear e3
    generalize w2.drew = w3 at q0 z0 HF3 HB3 O4 ⊢
    simp only [List.take_succ_cons, List.take_zero, List.drop_succ_cons, List.drop_zero]
    repeat still_step
    refine wpStill_nil ?_
    have hF4 : Fr [] w1 (w3.setCell ⟨g, k, none⟩ (.int .u8 Y)) := HF3.out.setCell (p := ⟨g, k, none⟩) (.inr (by show w1.heap.size ≤ g; omega)) _
    have hf := HFT.out
    rw [← HYY.out] at hf
    have cN := read_no (some ⟨g, 0, none⟩) N cb (L.set k (UInt8.ofNat Y)) (w3.setCell ⟨g, k, none⟩ (.int .u8 Y)) (by rw [List.length_set, HLN.out]) (Rd.own O4.out) hcb.1 (by omega) (by rw [hf]; decide)
    unfold RdNo at cN
    rw [hf] at cN
    have CN := Lib.hid cN
    have HF4 := Lib.hid hF4
    clear cN hf HFT O4 HF3 HB3 hF4
    go_wp2_with fail
    refine CN.out.mono ?_
    rintro e w5 ⟨rfl, hF5⟩
    go_wp2_with fail
    go_ret
    exact ⟨rfl, hF1.trans ((HF4.out.trans hF5).alloc _)⟩

  have hBi : ¬ (p : Int) < 8 := by omega
  by_cases hCc : p < 8 * S
  · have hCi : (p : Int) < 8 * (S : Int) := by omega
    have hk1 : 1 ≤ k := by have := HPK.out; omega
    have hkS : k < S := by have := HPK.out; omega
    have hf := HCC.out k j hj8 hk1 hkS
    have HF0 := Lib.hid hf
    clear hf HBB HCC HDD
    rcases HF0.out with hf | ⟨hf, hk2, hk4⟩
    · have HFT := Lib.hid hf
      clear hf HF0

      go_wp2_with fail
      have o3 := (Fr.refl [] w2).drew.own O2.out (by simp)
      have hF3 := HFX.out.drew
      have hB3 := HB2.out.fr (Fr.refl [] w2).drew (by simp)
      obtain ⟨x, hx, ex⟩ := bt_get (xs := L) (k := k) (by rw [HLN.out]; exact hkN)
      have hfl := flip8 (bt L k) (bt_lt _ _) j hj8
      obtain ⟨Y, hY⟩ : ∃ Y, Y = bt L k ^^^ 2 ^ j := ⟨_, rfl⟩
      have q0 : w2.drew.cell? ⟨g, k, none⟩ = some (.int .u8 (bt L k : Nat)) := own_cell o3 (j := k) (by rw [B8_get, hx, ← ex]; rfl)
      have z0 := own_fz o3 k
      have o4 := own_set o3 k (.int .u8 Y)
      rw [B8_set L k (UInt8.ofNat Y) (by rw [u8_nat (by rw [hY]; exact hfl.1)])] at o4
      have i0 : (k : Int) < (N : Int) := by omega
      have wk : IntKind.i64.wrap (k : Int) = (k : Int) := IntWalk.i64_in _ (by omega)
      have wj : IntKind.i64.wrap (j : Int) = (j : Int) := IntWalk.i64_in _ (by omega)
      have sh8 : ∀ j < 8, 2 ^ j < 256 := by decide
      obtain ⟨P, hP⟩ : ∃ P : Nat, P = 2 ^ j := ⟨_, rfl⟩
      have hP8 : P < 256 := by rw [hP]; exact sh8 j hj8
      have xo : bits .xor .u8 ((bt L k : Nat) : Int) (P : Int) = (Y : Int) := by rw [xor8 _ _ (bt_lt _ _) hP8, hY, hP]
      have wp : IntKind.u8.wrap ((2 : Int) ^ j) = (P : Int) := by
        have e : (2 : Int) ^ j = ((2 ^ j : Nat) : Int) := by simp
        rw [e, ← hP, u8_mod]; omega
      have HYY := Lib.hid hY
      clear hx ex hfl hP hY sh8
      generalize hX : bt L k = X at q0 xo
      have O4 := Lib.hid o4
      have HF3 := Lib.hid hF3
      have HB3 := Lib.hid hB3
      clear o4 o3 hF3 hB3 O2 HB2 HFX s9 hX
      refine wp_region_still_tail 10 (by kernel_rfl) (by kernel_rfl) ?_
      have e3 : ({ w2 with drawn := w2.drawn + 1 } : World) = w2.drew := rfl
      rw [e3]
      clear e3
      generalize w2.drew = w3 at q0 z0 HF3 HB3 O4 ⊢
      simp only [List.take_succ_cons, List.take_zero, List.drop_succ_cons, List.drop_zero]
      repeat still_step
      refine wpStill_nil ?_
      have hF4 : Fr [] w1 (w3.setCell ⟨g, k, none⟩ (.int .u8 Y)) := HF3.out.setCell (p := ⟨g, k, none⟩) (.inr (by show w1.heap.size ≤ g; omega)) _
      have hf := HFT.out
      rw [← HYY.out] at hf
      have cN := read_no (some ⟨g, 0, none⟩) N cb (L.set k (UInt8.ofNat Y)) (w3.setCell ⟨g, k, none⟩ (.int .u8 Y)) (by rw [List.length_set, HLN.out]) (Rd.own O4.out) hcb.1 (by omega) (by rw [hf]; decide)
      unfold RdNo at cN
      rw [hf] at cN
      have CN := Lib.hid cN
      have HF4 := Lib.hid hF4
      clear cN hf HFT O4 HF3 HB3 hF4
      go_wp2_with fail
      refine CN.out.mono ?_
      rintro e w5 ⟨rfl, hF5⟩
      go_wp2_with fail
      go_ret
      exact ⟨rfl, hF1.trans ((HF4.out.trans hF5).alloc _)⟩

    · have hk2i : (2 : Int) ≤ (k : Int) := by omega
      have hk4i : (k : Int) < 4 := by omega
      have HFT := Lib.hid hf
      clear hf HF0

      go_wp2_with fail
      have o3 := (Fr.refl [] w2).drew.own O2.out (by simp)
      have hF3 := HFX.out.drew
      have hB3 := HB2.out.fr (Fr.refl [] w2).drew (by simp)
      obtain ⟨x, hx, ex⟩ := bt_get (xs := L) (k := k) (by rw [HLN.out]; exact hkN)
      have hfl := flip8 (bt L k) (bt_lt _ _) j hj8
      obtain ⟨Y, hY⟩ : ∃ Y, Y = bt L k ^^^ 2 ^ j := ⟨_, rfl⟩
      have q0 : w2.drew.cell? ⟨g, k, none⟩ = some (.int .u8 (bt L k : Nat)) := own_cell o3 (j := k) (by rw [B8_get, hx, ← ex]; rfl)
      have z0 := own_fz o3 k
      have o4 := own_set o3 k (.int .u8 Y)
      rw [B8_set L k (UInt8.ofNat Y) (by rw [u8_nat (by rw [hY]; exact hfl.1)])] at o4
      have i0 : (k : Int) < (N : Int) := by omega
      have wk : IntKind.i64.wrap (k : Int) = (k : Int) := IntWalk.i64_in _ (by omega)
      have wj : IntKind.i64.wrap (j : Int) = (j : Int) := IntWalk.i64_in _ (by omega)
      have sh8 : ∀ j < 8, 2 ^ j < 256 := by decide
      obtain ⟨P, hP⟩ : ∃ P : Nat, P = 2 ^ j := ⟨_, rfl⟩
      have hP8 : P < 256 := by rw [hP]; exact sh8 j hj8
      have xo : bits .xor .u8 ((bt L k : Nat) : Int) (P : Int) = (Y : Int) := by rw [xor8 _ _ (bt_lt _ _) hP8, hY, hP]
      have wp : IntKind.u8.wrap ((2 : Int) ^ j) = (P : Int) := by
        have e : (2 : Int) ^ j = ((2 ^ j : Nat) : Int) := by simp
        rw [e, ← hP, u8_mod]; omega
      have HYY := Lib.hid hY
      clear hx ex hfl hP hY sh8
      generalize hX : bt L k = X at q0 xo
      have O4 := Lib.hid o4
      have HF3 := Lib.hid hF3
      have HB3 := Lib.hid hB3
      clear o4 o3 hF3 hB3 O2 HB2 HFX s9 hX
      refine wp_region_still_tail 10 (by kernel_rfl) (by kernel_rfl) ?_
      have e3 : ({ w2 with drawn := w2.drawn + 1 } : World) = w2.drew := rfl
      rw [e3]
      clear e3
      generalize w2.drew = w3 at q0 z0 HF3 HB3 O4 ⊢
      simp only [List.take_succ_cons, List.take_zero, List.drop_succ_cons, List.drop_zero]
      repeat still_step
      refine wpStill_nil ?_
      have hF4 : Fr [] w1 (w3.setCell ⟨g, k, none⟩ (.int .u8 Y)) := HF3.out.setCell (p := ⟨g, k, none⟩) (.inr (by show w1.heap.size ≤ g; omega)) _
      have hf := HFT.out
      rw [← HYY.out] at hf
      have cN := read_no (some ⟨g, 0, none⟩) N cb (L.set k (UInt8.ofNat Y)) (w3.setCell ⟨g, k, none⟩ (.int .u8 Y)) (by rw [List.length_set, HLN.out]) (Rd.own O4.out) hcb.1 (by omega) (by rw [hf]; decide)
      unfold RdNo at cN
      rw [hf] at cN
      have CN := Lib.hid cN
      have HF4 := Lib.hid hF4
      clear cN hf HFT O4 HF3 HB3 hF4
      go_wp2_with fail
      refine CN.out.mono ?_
      rintro e w5 ⟨rfl, hF5⟩
      go_wp2_with fail
      go_ret
      exact ⟨rfl, hF1.trans ((HF4.out.trans hF5).alloc _)⟩

  have hCi : ¬ (p : Int) < 8 * (S : Int) := by omega
  have hkS : S ≤ k := by have := HPK.out; omega
  obtain ⟨g1, g2, g3, g4⟩ := HDD.out k (UInt8.ofNat (bt L k ^^^ 2 ^ j)) hkS
  have G1 := Lib.hid g1
  have G2 := Lib.hid g2
  have G3 := Lib.hid g3
  have G4 := Lib.hid g4
  clear g1 g2 g3 g4 HBB HCC HDD

  go_wp2_with fail
  have o3 := (Fr.refl [] w2).drew.own O2.out (by simp)
  have hF3 := HFX.out.drew
  have hB3 := HB2.out.fr (Fr.refl [] w2).drew (by simp)
  obtain ⟨x, hx, ex⟩ := bt_get (xs := L) (k := k) (by rw [HLN.out]; exact hkN)
  have hfl := flip8 (bt L k) (bt_lt _ _) j hj8
  obtain ⟨Y, hY⟩ : ∃ Y, Y = bt L k ^^^ 2 ^ j := ⟨_, rfl⟩
  have q0 : w2.drew.cell? ⟨g, k, none⟩ = some (.int .u8 (bt L k : Nat)) := own_cell o3 (j := k) (by rw [B8_get, hx, ← ex]; rfl)
  have z0 := own_fz o3 k
  have o4 := own_set o3 k (.int .u8 Y)
  rw [B8_set L k (UInt8.ofNat Y) (by rw [u8_nat (by rw [hY]; exact hfl.1)])] at o4
  have i0 : (k : Int) < (N : Int) := by omega
  have wk : IntKind.i64.wrap (k : Int) = (k : Int) := IntWalk.i64_in _ (by omega)
  have wj : IntKind.i64.wrap (j : Int) = (j : Int) := IntWalk.i64_in _ (by omega)
  have sh8 : ∀ j < 8, 2 ^ j < 256 := by decide
  obtain ⟨P, hP⟩ : ∃ P : Nat, P = 2 ^ j := ⟨_, rfl⟩
  have hP8 : P < 256 := by rw [hP]; exact sh8 j hj8
  have xo : bits .xor .u8 ((bt L k : Nat) : Int) (P : Int) = (Y : Int) := by rw [xor8 _ _ (bt_lt _ _) hP8, hY, hP]
  have wp : IntKind.u8.wrap ((2 : Int) ^ j) = (P : Int) := by
    have e : (2 : Int) ^ j = ((2 ^ j : Nat) : Int) := by simp
    rw [e, ← hP, u8_mod]; omega
  have HYY := Lib.hid hY
  clear hx ex hfl hP hY sh8
  generalize hX : bt L k = X at q0 xo
  have O4 := Lib.hid o4
  have HF3 := Lib.hid hF3
  have HB3 := Lib.hid hB3
  clear o4 o3 hF3 hB3 O2 HB2 HFX s9 hX
  refine wp_region_still_tail 10 (by kernel_rfl) (by kernel_rfl) ?_
  have e3 : ({ w2 with drawn := w2.drawn + 1 } : World) = w2.drew := rfl
  rw [e3]
  clear e3
  generalize w2.drew = w3 at q0 z0 HF3 HB3 O4 ⊢
  simp only [List.take_succ_cons, List.take_zero, List.drop_succ_cons, List.drop_zero]
  repeat still_step
  refine wpStill_nil ?_
  have hF4 : Fr [] w1 (w3.setCell ⟨g, k, none⟩ (.int .u8 Y)) := HF3.out.setCell (p := ⟨g, k, none⟩) (.inr (by show w1.heap.size ≤ g; omega)) _
  have hB4 : BoxH (w3.setCell ⟨g, k, none⟩ (.int .u8 Y)) w1.heap.size h A n c := HB3.out.fr ((Fr.refl [g] w3).setCell (p := ⟨g, k, none⟩) (.inl (by simp)) _) (by simp; omega)
  have g1 := G1.out
  have g2 := G2.out
  have g3 := G3.out
  have g4 := G4.out
  rw [← HYY.out] at g1 g2 g3 g4
  have cN := read_yes (some ⟨g, 0, none⟩) N cb (L.set k (UInt8.ofNat Y)) (w3.setCell ⟨g, k, none⟩ (.int .u8 Y)) (by rw [List.length_set, HLN.out]) (Rd.own O4.out) hcb.1 (by omega) g1
  unfold RdYes at cN
  rw [g2, g3, g4, HSN.out] at cN
  unfold HV at cN
  have CN := Lib.hid cN
  have HF4 := Lib.hid hF4
  have HB4 := Lib.hid hB4
  clear cN g1 g2 g3 g4 G1 G2 G3 G4 O4 HF3 HB3 hF4 hB4
  go_wp2_with fail
  refine CN.out.mono ?_
  rintro e w5 ⟨A5, c5, rfl, o5, hF5⟩
  have hBy : BoxH (w5.alloc (.cells #[.int .u8 h.tos, .int .u16 h.id, .bool h.df, .bool h.mf, .int .i64 h.off, .int .u8 h.ttl, .int .u8 h.proto, .int .u32 h.src, .int .u32 h.dst, .slice A5 n c5] 30)) w5.heap.size h A5 n c5 := heap_alloc_new w5 _
  have hFy : Fr [] w5 (w5.alloc (.cells #[.int .u8 h.tos, .int .u16 h.id, .bool h.df, .bool h.mf, .int .i64 h.off, .int .u8 h.ttl, .int .u8 h.proto, .int .u32 h.src, .int .u32 h.dst, .slice A5 n c5] 30)) := (Fr.refl _ _).alloc _
  have hB5 := HB4.out.fr (hF5.trans hFy) (by simp)
  have HBY := Lib.hid hBy
  have HB5 := Lib.hid hB5
  have hF15 := HF4.out.trans (hF5.trans hFy)
  have cM := fun W (hW : Fr [] (w5.alloc (.cells #[.int .u8 h.tos, .int .u16 h.id, .bool h.df, .bool h.mf, .int .i64 h.off, .int .u8 h.ttl, .int .u8 h.proto, .int .u32 h.src, .int .u32 h.dst, .slice A5 n c5] 30)) W) => same5 h A5 A n n c5 c W HLO.out HLO.out (Rd.own ((hFy.trans hW).own o5 (by simp))) (HRO.out.fr (hF15.trans hW) (by simp)) (by omega)
  unfold HV at cM
  have CM := Lib.hid cM
  have HF15 := Lib.hid hF15
  clear cM hF15 hBy hFy hB5 o5 hF5 CN HB4 HF4
  have d5 := HB5.out
  have e0 := d5.c0
  have e1 := d5.c1
  have e2 := d5.c2
  have e3 := d5.c3
  have e4 := d5.c4
  have e5 := d5.c5
  have e6 := d5.c6
  have e7 := d5.c7
  have e8 := d5.c8
  have e9 := d5.c9
  clear d5
  go_wp2_with fail
  refine (CM.out _ (Fr.refl _ _)).mono ?_
  rintro e w9 ⟨rfl, hF9⟩
  clear CM e0 e1 e2 e3 e4 e5 e6 e7 e8 e9
  go_wp2_with fail
  go_ret
  exact ⟨rfl, hF1.trans (HF15.out.trans hF9)⟩

end Go.Proofs.Ytjpcfphmejenoaa
