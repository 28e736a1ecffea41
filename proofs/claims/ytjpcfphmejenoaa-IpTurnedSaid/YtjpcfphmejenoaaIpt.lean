/- IpTurned. -/
import Derived.Test.YtjpcfphmejenoaaIpc
namespace Go.Proofs.Ytjpcfphmejenoaa
open Go.RowKit
set_option linter.unusedVariables false
set_option maxRecDepth 100000

set_option maxHeartbeats 4000000 in
theorem turned_any (b : List Nat) (wo fa ma : Nat) (df mf : Bool) (A0 : Option Addr) (n0 c0 : Nat) (xs0 : List UInt8) (bh : Nat) (w : World) (s0 : b.length = 12 ∧ (∀ x ∈ b, x < 256) ∧ wo < 256 ∧ fa < 256 ∧ ma < 256 ∧ xs0.length = n0 ∧ Rd w A0 (B8 xs0) ∧ (A0 = none → c0 = 0) ∧ n0 ≤ c0 ∧ c0 ≤ maxLen) (hbh : bh < 256) :
    Calls Try.prog 6 #[SV b wo fa ma df mf A0 n0 c0, .int .u8 bh] w fun e w' => e = .returned (.bool true) ∧ Fr [] w w' := by
  obtain ⟨z, hz⟩ : ∃ z, z = bh % 9 := ⟨_, rfl⟩
  have z1 : (bh : Int).tmod 9 = (z : Int) := by rw [Int.tmod_eq_emod_of_nonneg (by omega)]; omega
  have z9 : z < 9 := by omega
  clear hz
  obtain ⟨hb12, hb, hwo, hfa, hma, hl, hrd, hnil, hnc, hcm⟩ := s0
  have hg : ∀ k, b.getD k 0 < 256 := fun k => by
    by_cases h : k < b.length
    · rw [List.getD_eq_getElem?_getD, List.getElem?_eq_getElem h]; exact hb _ (List.getElem_mem h)
    · rw [List.getD_eq_getElem?_getD, List.getElem?_eq_none (by omega)]; decide
  have cM := fun W (hW : Fr [] w W) => made5 b wo fa ma df mf A0 n0 c0 xs0 W hg hwo hfa hma hl (hrd.fr hW (by simp)) hnil hnc (by simp only [maxLen] at hcm; omega)
  unfold SV at cM ⊢
  generalize b.getD 0 0 = b0 at cM ⊢
  generalize b.getD 1 0 = b1 at cM ⊢
  generalize b.getD 2 0 = b2 at cM ⊢
  generalize b.getD 3 0 = b3 at cM ⊢
  generalize b.getD 4 0 = b4 at cM ⊢
  generalize b.getD 5 0 = b5 at cM ⊢
  generalize b.getD 6 0 = b6 at cM ⊢
  generalize b.getD 7 0 = b7 at cM ⊢
  generalize b.getD 8 0 = b8 at cM ⊢
  generalize b.getD 9 0 = b9 at cM ⊢
  generalize b.getD 10 0 = b10 at cM ⊢
  generalize b.getD 11 0 = b11 at cM ⊢
  have cA := fun W => awake5 W
  have CM := Lib.hid cM
  have CA := Lib.hid cA
  clear cM cA hl hrd hnil hg hb hb12 hnc hcm hwo hfa hma
  have hX0 : Blk (w.alloc (.cells #[.int .u8 b0, .int .u8 b1, .int .u8 b2, .int .u8 b3, .int .u8 b4, .int .u8 b5, .int .u8 b6, .int .u8 b7, .int .u8 b8, .int .u8 b9, .int .u8 b10, .int .u8 b11, .int .u8 wo, .int .u8 fa, .int .u8 ma, .bool df, .bool mf, .slice A0 n0 c0] 25)) w.heap.size #[.int .u8 b0, .int .u8 b1, .int .u8 b2, .int .u8 b3, .int .u8 b4, .int .u8 b5, .int .u8 b6, .int .u8 b7, .int .u8 b8, .int .u8 b9, .int .u8 b10, .int .u8 b11, .int .u8 wo, .int .u8 fa, .int .u8 ma, .bool df, .bool mf, .slice A0 n0 c0] 25 := blk_new w _ _ rfl
  have hF0 : Fr [] w (w.alloc (.cells #[.int .u8 b0, .int .u8 b1, .int .u8 b2, .int .u8 b3, .int .u8 b4, .int .u8 b5, .int .u8 b6, .int .u8 b7, .int .u8 b8, .int .u8 b9, .int .u8 b10, .int .u8 b11, .int .u8 wo, .int .u8 fa, .int .u8 ma, .bool df, .bool mf, .slice A0 n0 c0] 25)) := (Fr.refl _ _).alloc _
  have HX0 := Lib.hid hX0
  clear hX0
  go_enter Try.func6, Try.ntmps6
  go_wp2_with fail
  refine (CA.out _).mono ?_
  rintro e wa ⟨rfl, hFa⟩
  have hX1 := HX0.out.fr hFa (by simp)
  have HX1 := Lib.hid hX1
  replace hFa := hF0.trans hFa
  clear hX1 HX0 hF0 CA
  go_wp2_with (refine wpList_load_row rfl 25 _ rfl w.heap.size rfl _ _ _ _ HX1.out Try.underlying25 rfl (by kernel_rfl) ?_)
  refine (CM.out _ hFa).mono ?_
  rintro e w1 ⟨h, A, n, c, d, A2, m, c2, rfl, f, hd, hm80, hlo, hrdo, hniA, hnc, hrdd, hnil2, hmc2, hcm2, hF1⟩
  clear HX1 CM
  replace hF1 := hFa.trans hF1
  clear hFa
  have hLN : (wrN h d).length = 20 + n + m := by rw [wrN_length]; omega
  have fo := f.o
  have hn40 : n ≤ 40 := by omega
  have cW := fun W (hW : Fr [] w1 W) => write_yes h d A A2 n c m c2 W hlo (hrdo.fr hW (by simp)) hniA hd (hrdd.fr hW (by simp)) hnil2 f
  have fs : Fits h d.length := by rw [hd]; exact f
  have cT1 := fun A' c' W (hr : Rd W A' (B8 (wrN h d ++ List.replicate z 0))) (hc : 20 + n + m + z ≤ c') => turn_yes A' (20 + n + m + z) c' (wrN h d ++ List.replicate z 0) W (by rw [List.length_append, List.length_replicate, hLN]) hr hc (by omega) (good_wr fs _).1
  rw [trn_wr fs, (good_wr fs _).2.2.2, show 20 + h.o.length + d.length = 20 + n + m by omega] at cT1
  have fs2 := fs.swp
  have hg2 := good_wr fs2 []
  rw [List.append_nil] at hg2
  have hLN2 : (wrN (swp h) d).length = 20 + n + m := by rw [wrN_length]; show 20 + h.o.length + d.length = _; omega
  have cR := fun g' c' W (hr : Rd W (some ⟨g', 0, none⟩) (B8 (wrN (swp h) d))) (hc : 20 + n + m ≤ c') => read_yes (some ⟨g', 0, none⟩) (20 + n + m) c' (wrN (swp h) d) W hLN2 hr hc (by omega) hg2.1
  unfold RdYes at cR
  rw [hg2.2.1, hg2.2.2.1, hg2.2.2.2, show 20 + (swp h).o.length + d.length = 20 + n + m by show 20 + h.o.length + d.length = _; omega, show 20 + (swp h).o.length = 20 + n by show 20 + h.o.length = _; omega, show 20 + n - 20 = n by omega] at cR
  have cT2 := fun g' c' W (hr : Rd W (some ⟨g', 0, none⟩) (B8 (wrN (swp h) d))) (hc : 20 + n + m ≤ c') => turn_yes (some ⟨g', 0, none⟩) (20 + n + m) c' (wrN (swp h) d) W hLN2 hr hc (by omega) hg2.1
  have hts := trn_wr fs2 []
  rw [List.append_nil, swp_swp] at hts
  rw [hts, hg2.2.2.2, show 20 + (swp h).o.length + d.length = 20 + n + m by show 20 + h.o.length + d.length = _; omega] at cT2
  have y10 := wr_10 h d
  have y11 := wr_11 h d
  have t10 := wr_10 (swp h) d
  have t11 := wr_11 (swp h) d
  have hck := ck_swp fs
  rw [show 20 + (swp h).o.length + d.length = 20 + h.o.length + d.length from rfl, hck] at t10 t11
  generalize hi8 (ckN h (20 + h.o.length + d.length)) = C1 at y10 t10
  generalize lo8 (ckN h (20 + h.o.length + d.length)) = C2 at y11 t11
  clear hck hg2 hts
  have hdr : (wrN (swp h) d).drop (20 + n) = d := by have := wr_drop (swp h) d; rwa [show 20 + (swp h).o.length = 20 + n by show 20 + h.o.length = _; omega] at this
  obtain ⟨N, hN⟩ : ∃ N, N = 20 + n + m := ⟨_, rfl⟩
  rw [← hN] at cT1 cR cT2 hLN hLN2
  obtain ⟨S, hS⟩ : ∃ S, S = 20 + n := ⟨_, rfl⟩
  rw [← hS] at cR hdr
  have hNb : N ≤ 140 + 0 := by omega
  have hN20 : S ≤ N := by omega
  have hS20 : 20 ≤ S := by omega
  have hNm : N - S = m := by omega
  unfold WrYes at cW
  rw [hLN] at cW
  generalize wrN h d = L at cW cT1 cT2 hLN y10 y11
  generalize hL2 : wrN (swp h) d = L2 at cT1 cR cT2 hLN2 t10 t11 hdr
  unfold HV at cW cR ⊢
  unfold swp at cR
  simp only at cR
  have CW := Lib.hid cW
  have CT1 := Lib.hid cT1
  have CR := Lib.hid cR
  have CT2 := Lib.hid cT2
  have Y10 := Lib.hid y10
  have Y11 := Lib.hid y11
  have T10 := Lib.hid t10
  have T11 := Lib.hid t11
  have HLO := Lib.hid hlo
  have HD := Lib.hid hd
  have HLN := Lib.hid hLN
  have HLN2 := Lib.hid hLN2
  have HDR := Lib.hid hdr
  have HRO := Lib.hid hrdo
  have HRD := Lib.hid hrdd
  have HNM := Lib.hid hNm
  clear cW cT1 cR cT2 y10 y11 t10 t11 hlo hd hLN hLN2 hdr hrdo hrdd hniA hnil2 f fs fs2 hN hS hNm hL2 fo
  have hFx : Fr [] w1 (w1.alloc (.cells #[.int .u8 h.tos, .int .u16 h.id, .bool h.df, .bool h.mf, .int .i64 h.off, .int .u8 h.ttl, .int .u8 h.proto, .int .u32 h.src, .int .u32 h.dst, .slice A n c] 30)) := (Fr.refl _ _).alloc _
  have hBx : BoxH (w1.alloc (.cells #[.int .u8 h.tos, .int .u16 h.id, .bool h.df, .bool h.mf, .int .i64 h.off, .int .u8 h.ttl, .int .u8 h.proto, .int .u32 h.src, .int .u32 h.dst, .slice A n c] 30)) w1.heap.size h A n c := heap_alloc_new w1 _
  have HBX := Lib.hid hBx
  clear hBx
  go_wp2_with fail
  refine (CW.out _ hFx).mono ?_
  as_aux_lemma =>
    rintro e w2 ⟨g, cb, rfl, o2, hF2⟩
    replace hFx := hFx.trans hF2
    have HB2 := Lib.hid (HBX.out.fr hF2 (by simp))
    have hcb := own_cc o2
    obtain ⟨v4, w4, hr4, A4, c4, rfl, hrd4, hc4, hc4m, hn4, hF4⟩ := afz_run (P := Try.prog) (t := 23) (e := 5) (bytes := 1) (ti := 5) (k := .u8) (k2 := .u8) (z := .int .u8 0) Try.underlying23 (by kernel_rfl) rfl Try.underlying5 w2 23 ⟨g, 0, none⟩ N (B8 L) (by rw [B8_length, HLN.out]) (Rd.own o2) z (by unfold maxLen; omega) (by omega)
    rw [rep8, ← B8_append] at hrd4
    have HRD4 := Lib.hid hrd4
    have HFX := Lib.hid (hFx.trans hF4)
    have HF4 := Lib.hid hF4
    have HB4 := Lib.hid (HB2.out.fr hF4 (by simp))
    have O2 := Lib.hid o2
    have O4 := Lib.hid (hF4.own o2 (by simp))
    have hb1 : (0 : Int) ≤ (N : Int) ∧ (N : Int) ≤ (cb : Int) := by omega
    have hb2 : (N : Int) ≤ (cb : Int) := by omega
    have hc4' := hc4
    clear hrd4 hFx hF4 hF2 o2 HB2 HBX hn4 hc4m
    go_wp2_with (at_builtin; refine wpList_app rfl _ _ _ rfl hr4 rfl rfl ?_)
    refine (CT1.out A4 c4 _ HRD4.out hc4').mono ?_
    rintro e w5 ⟨g5, c5, rfl, o5, hF5⟩
    have hc5 := (own_cc o5).1
    have O5 := Lib.hid o5
    have H45 := Lib.hid hF5
    clear hr4 o5 hF5 CT1 HRD4 hc4 hc4' hb1 hb2
    go_wp2_with fail
    refine (CR.out g5 c5 _ (Rd.own O5.out) hc5).mono ?_
    as_aux_lemma =>
      rintro e w6 ⟨A6, c6, rfl, o6, hF6⟩
      have hl4 : w1.heap.size < w4.heap.size := lt_of_block HB4.out
      have hl46 : w1.heap.size < w5.heap.size := by have := lt_of_block HB4.out; have := H45.out.size; omega
      have hl56 := hF6.size
      have O6 := Lib.hid o6
      have hBy : BoxH (w6.alloc (.cells #[.int .u8 h.tos, .int .u16 h.id, .bool h.df, .bool h.mf, .int .i64 h.off, .int .u8 h.ttl, .int .u8 h.proto, .int .u32 h.dst, .int .u32 h.src, .slice A6 n c6] 30)) w6.heap.size (swp h) A6 n c6 := heap_alloc_new w6 _
      have hFy : Fr [] w6 (w6.alloc (.cells #[.int .u8 h.tos, .int .u16 h.id, .bool h.df, .bool h.mf, .int .i64 h.off, .int .u8 h.ttl, .int .u8 h.proto, .int .u32 h.dst, .int .u32 h.src, .slice A6 n c6] 30)) := (Fr.refl _ _).alloc _
      have HBY := Lib.hid hBy
      have HF6 := Lib.hid (hF6.trans hFy)
      have HFY := Lib.hid hFy
      clear o6 hBy hF6 CR hFy
      go_wp2_with fail
      as_aux_lemma =>
        refine (CT2.out g5 c5 _ (Rd.own (HF6.out.own O5.out (by simp))) hc5).mono ?_
        rintro e w7 ⟨g7, c7, rfl, o7, hF7⟩
        have hc7 := (own_cc o7).1
        have f57 := HF6.out.trans hF7
        have f47 := H45.out.trans f57
        have o5' := f57.own O5.out (by simp)
        have o2' := f47.own O4.out (by simp)
        have u10 : w7.cell? ⟨g5, 10, none⟩ = some (.int .u8 C1.toNat) := own_cell o5' (j := 10) (by rw [B8_get, T10.out]; rfl)
        have u11 : w7.cell? ⟨g5, 11, none⟩ = some (.int .u8 C2.toNat) := own_cell o5' (j := 11) (by rw [B8_get, T11.out]; rfl)
        have v10 : w7.cell? ⟨g, 10, none⟩ = some (.int .u8 C1.toNat) := own_cell o2' (j := 10) (by rw [B8_get, Y10.out]; rfl)
        have v11 : w7.cell? ⟨g, 11, none⟩ = some (.int .u8 C2.toNat) := own_cell o2' (j := 11) (by rw [B8_get, Y11.out]; rfl)
        have i10 : (10 : Int) < (N : Int) := by omega
        have i11 : (11 : Int) < (N : Int) := by omega
        have cS := fun q => same_any (some ⟨g7, 0, none⟩) (some ⟨g, 0, none⟩) N N c7 cb L L (w7.drewN q) HLN.out HLN.out ((Rd.own o7).fr ((Fr.refl [] w7).drewN q) (by simp)) ((Rd.own o2').fr ((Fr.refl [] w7).drewN q) (by simp)) (by omega)
        unfold EqP at cS
        simp only [decide_true] at cS
        have CS := Lib.hid cS
        have HFX7 := Lib.hid (HFX.out.trans f47)
        have HB7 := Lib.hid (HB4.out.fr f47 (by simp))
        have HBY7 := Lib.hid (HBY.out.fr hF7 (by simp))
        have O57 := Lib.hid o5'
        have O67 := Lib.hid ((HFY.out.trans hF7).own O6.out (by simp))
        clear cS f47 f57 o5' o2' o7 hF7 CT2 H45 O5 O4 HF6 HFX HB4 HBY O6 O2 HF4 HFY
        go_wp2_with fail
        as_aux_lemma =>
          go_quiet ((go_at_call 14; exact Calls.quiet_of (CS.out _)))
          have k7 := HB7.out.c7
          have k8 := HB7.out.c8
          have q7 := HB7.out.fz 7
          have q8 := HB7.out.fz 8
          clear u10 u11 v10 v11 i10 i11 CS
          as_aux_lemma =>
            go_upto_region 11 with (fail)
            obtain ⟨w8, h8⟩ : ∃ w8, w8 = (((w7.drewN nq).setCell ⟨w1.heap.size, 7, none⟩ (.int .u32 h.dst)).setCell ⟨w1.heap.size, 8, none⟩ (.int .u32 h.src)) := ⟨_, rfl⟩
            have hF8 : Fr [w1.heap.size] w7 w8 := by rw [h8]; exact ((((Fr.refl _ _).drewN _).setCell (.inl (by simp)) _).setCell (.inl (by simp)) _)
            have hB8 : BoxH w8 w1.heap.size (swp h) A n c := by rw [h8]; exact ((HB7.out.drewN nq).set7 h.dst).set8 h.src
            have hBY8 := HBY7.out.fr hF8 (by simp; omega)
            rw [← h8]
            clear h8 k7 k8 q7 q8
            have hF18 : Fr [] w1 w8 := HFX7.out.trans2 hF8 (by simp)
            have hr6 := Rd.own (hF8.own O67.out (fun k hk => by have := (O67.out.lt k hk).1; simp; omega))
            have cM := fun W (hW : Fr [] w8 W) => same5 (swp h) A6 A n n c6 c W HLO.out HLO.out (hr6.fr hW (by simp)) ((HRO.out.fr hF18 (by simp)).fr hW (by simp)) (by omega)
            unfold HV at cM
            obtain ⟨E, hE⟩ : ∃ E : Option Addr, E = if c5 = S then some ⟨g5, 0, none⟩ else some ⟨g5, S, none⟩ := ⟨_, rfl⟩
            have hif := hE.symm
            have o58 := Rd.own (hF8.own O57.out (fun k hk => by have := (O57.out.lt k hk).1; simp; omega))
            have hrE : Rd w8 E (B8 d) := by
              rw [hE]
              have := rd_from (k := S) (c := c5) o58 (by rw [HLN2.out]; omega)
              rw [HDR.out] at this
              exact this
            have cS := fun W (hW : Fr [] w8 W) => same_any E A2 (N - S) m (c5 - S) c2 d d W (by rw [HD.out, HNM.out]) HD.out (hrE.fr hW (by simp)) ((HRD.out.fr hF18 (by simp)).fr hW (by simp)) (by omega)
            unfold EqP at cS
            simp only [decide_true] at cS
            have CS := Lib.hid cS
            have CM := Lib.hid cM
            have HF18 := Lib.hid hF18
            have HA8 := Lib.hid hBY8
            have HD8 := Lib.hid hB8
            have b1' : (0 : Int) ≤ (S : Int) ∧ (S : Int) ≤ (N : Int) ∧ (N : Int) ≤ (c5 : Int) := by omega
            have b2' : (S : Int) ≤ (N : Int) := by omega
            have b3' : (N : Int) ≤ (c5 : Int) := by omega
            clear cS cM hF18 hB8 hBY8 hr6 hE o58 hrE hF8 HB7 HBY7 O57 O67 HFX7 HRO HRD HDR HNM HLN2 HD
            go_wp2_with (first | (refine wpList_load_row rfl 30 _ rfl (w6.heap.size) rfl _ _ _ _ HA8.out Try.underlying30 rfl (by kernel_rfl) ?_) | (refine wpList_load_row rfl 30 _ rfl (w1.heap.size) rfl _ _ _ _ HD8.out Try.underlying30 rfl (by kernel_rfl) ?_))
            refine (CM.out _ (Fr.refl _ _)).mono ?_
            rintro e w9 ⟨rfl, hF9⟩
            clear HA8 HD8
            go_wp2_with fail
            refine (CS.out _ hF9).mono ?_
            rintro e w10 ⟨rfl, hS10⟩
            go_wp2_with fail
            go_ret
            exact ⟨rfl, hF1.trans (HF18.out.trans (hF9.trans hS10.fr))⟩

end Go.Proofs.Ytjpcfphmejenoaa
