/- IpWrong. -/
import Derived.Test.YtjpcfphmejenoaaIpwm
import Derived.StillTailTactics
import Derived.BigQuiet
namespace Go.Proofs.Ytjpcfphmejenoaa
open Go.RowKit
set_option linter.unusedVariables false
set_option maxRecDepth 100000

set_option maxHeartbeats 4000000 in
theorem wrong_d (b : List Nat) (wo fa ma : Nat) (df mf : Bool) (A0 : Option Addr) (n0 c0 : Nat) (xs0 : List UInt8) (wy : Nat) (nn : Int) (w : World) (s0 : b.length = 12 ∧ (∀ x ∈ b, x < 256) ∧ wo < 256 ∧ fa < 256 ∧ ma < 256 ∧ xs0.length = n0 ∧ Rd w A0 (B8 xs0) ∧ (A0 = none → c0 = 0) ∧ n0 ≤ c0 ∧ c0 ≤ maxLen) (hwy : wy < 256) (hw : (Lit.int .i64 nn).wf = true) (hq : wy % 12 = 9 ∨ wy % 12 = 10 ∨ wy % 12 = 11) :
    Calls Try.prog 8 #[SV b wo fa ma df mf A0 n0 c0, .int .u8 wy, .int .i64 nn] w fun e w' => e = .returned (.bool true) ∧ Fr [] w w' := by
  have hnb := bounds_i64 hw
  obtain ⟨y, hy⟩ : ∃ y, y = wy % 12 := ⟨_, rfl⟩
  have z1 : (wy : Int).tmod 12 = (y : Int) := by rw [Int.tmod_eq_emod_of_nonneg (by omega)]; omega
  have z2 : (wy : Int) % 12 = (y : Int) := by omega
  have y12 : y < 12 := by omega
  have hyy : y = 9 ∨ y = 10 ∨ y = 11 := by omega
  have HYY := Lib.hid hyy
  clear hyy hq
  clear hy
  obtain ⟨mn, hmn1, hmn2⟩ : ∃ mn : Int, (if (-1 : Int) < nn then -1 else nn) = mn ∧ (mn ≤ -1 ∧ -9223372036854775808 ≤ mn) := ⟨_, rfl, by split <;> omega⟩
  obtain ⟨mx, hmx1, hmx2⟩ : ∃ mx : Int, (if nn < (65516 : Int) then 65516 else nn) = mx ∧ (65516 ≤ mx ∧ mx ≤ 9223372036854775807) := ⟨_, rfl, by split <;> omega⟩
  have HM1 := Lib.hid hmn1
  have HM2 := Lib.hid hmx1
  clear hmn1 hmx1 hw
  obtain ⟨hb12, hb, hwo, hfa, hma, hl, hrd, hnil, hnc, hcm⟩ := s0
  have hg : ∀ k, b.getD k 0 < 256 := fun k => by
    by_cases h : k < b.length
    · rw [List.getD_eq_getElem?_getD, List.getElem?_eq_getElem h]; exact hb _ (List.getElem_mem h)
    · rw [List.getD_eq_getElem?_getD, List.getElem?_eq_none (by omega)]; decide
  have cM := fun W (hW : Fr [] w W) => made5 b wo fa ma df mf A0 n0 c0 xs0 W hg hwo hfa hma hl (hrd.fr hW (by simp)) hnil hnc (by simp only [maxLen] at hcm; omega)
  unfold SV at cM ⊢
  generalize b.getD 0 0 = b0 at cM ⊢
  generalize b.getD 1 0 = b1 at cM ⊢
  generalize b.getD 2 0 = b2 at cM ⊢
  generalize b.getD 3 0 = b3 at cM ⊢
  generalize b.getD 4 0 = b4 at cM ⊢
  generalize b.getD 5 0 = b5 at cM ⊢
  generalize b.getD 6 0 = b6 at cM ⊢
  generalize b.getD 7 0 = b7 at cM ⊢
  generalize b.getD 8 0 = b8 at cM ⊢
  generalize b.getD 9 0 = b9 at cM ⊢
  generalize b.getD 10 0 = b10 at cM ⊢
  generalize b.getD 11 0 = b11 at cM ⊢
  have cA := fun W => awake5 W
  have CM := Lib.hid cM
  have CA := Lib.hid cA
  clear cM cA hl hrd hnil hg hb hb12 hnc hcm hwo hfa hma
  have hX0 : Blk (w.alloc (.cells #[.int .u8 b0, .int .u8 b1, .int .u8 b2, .int .u8 b3, .int .u8 b4, .int .u8 b5, .int .u8 b6, .int .u8 b7, .int .u8 b8, .int .u8 b9, .int .u8 b10, .int .u8 b11, .int .u8 wo, .int .u8 fa, .int .u8 ma, .bool df, .bool mf, .slice A0 n0 c0] 25)) w.heap.size #[.int .u8 b0, .int .u8 b1, .int .u8 b2, .int .u8 b3, .int .u8 b4, .int .u8 b5, .int .u8 b6, .int .u8 b7, .int .u8 b8, .int .u8 b9, .int .u8 b10, .int .u8 b11, .int .u8 wo, .int .u8 fa, .int .u8 ma, .bool df, .bool mf, .slice A0 n0 c0] 25 := blk_new w _ _ rfl
  have hF0 : Fr [] w (w.alloc (.cells #[.int .u8 b0, .int .u8 b1, .int .u8 b2, .int .u8 b3, .int .u8 b4, .int .u8 b5, .int .u8 b6, .int .u8 b7, .int .u8 b8, .int .u8 b9, .int .u8 b10, .int .u8 b11, .int .u8 wo, .int .u8 fa, .int .u8 ma, .bool df, .bool mf, .slice A0 n0 c0] 25)) := (Fr.refl _ _).alloc _
  have HX0 := Lib.hid hX0
  clear hX0
  go_enter Try.func8, Try.ntmps8
  go_wp2_with fail
  refine (CA.out _).mono ?_
  rintro e wa ⟨rfl, hFa⟩
  have hX1 := HX0.out.fr hFa (by simp)
  have HX1 := Lib.hid hX1
  replace hFa := hF0.trans hFa
  clear hX1 HX0 hF0 CA
  go_wp2_with (refine wpList_load_row rfl 25 _ rfl w.heap.size rfl _ _ _ _ HX1.out Try.underlying25 rfl (by kernel_rfl) ?_)
  refine (CM.out _ hFa).mono ?_
  rintro e w1 ⟨h, A, n, c, d, A2, m, c2, rfl, f, hd, hm80, hlo, hrdo, hniA, hnc, hrdd, hnil2, hmc2, hcm2, hF1⟩
  clear HX1 CM
  replace hF1 := hFa.trans hF1
  clear hFa
  have hLN : (wrN h d).length = 20 + n + m := by rw [wrN_length]; omega
  have fo := f.o
  have fof := f.off
  have fbo := f.b.off
  have fn := f.n
  have hn40 : n ≤ 40 ∧ n % 4 = 0 := by omega
  have hoff : 0 ≤ h.off ∧ h.off % 8 = 0 ∧ h.off ≤ 65515 := by omega
  have cW := fun W (hW : Fr [] w1 W) => write_yes h d A A2 n c m c2 W hlo (hrdo.fr hW (by simp)) hniA hd (hrdd.fr hW (by simp)) hnil2 f
  have fs : Fits h d.length := by rw [hd]; exact f
  have hg := good_wr fs []
  rw [List.append_nil] at hg
  obtain ⟨hg1, hg2, hg3, hg4⟩ := hg
  obtain ⟨N, hN⟩ : ∃ N, N = 20 + n + m := ⟨_, rfl⟩
  obtain ⟨S, hS⟩ : ∃ S, S = 20 + n := ⟨_, rfl⟩
  rw [hlo, ← hS] at hg3
  rw [hlo, hd, ← hN] at hg4
  rw [← hN] at hLN
  have hNb : N ≤ 140 := by omega
  have hN20 : S ≤ N := by omega
  have hS20 : 20 ≤ S := by omega
  have hS60 : S ≤ 60 := by omega
  have hSm : N = S + m := by omega
  have HSM := Lib.hid hSm
  have hS1 : (20 : Int) + (n : Int) = (S : Int) := by omega
  have cRt := fun z W => right5_any h A n c z W hlo (by omega) f.b.off
  unfold WrYes at cW
  rw [hLN] at cW
  generalize wrN h d = L at cW hLN hg1 hg2 hg3 hg4
  unfold HV at cW cRt ⊢
  have CW := Lib.hid cW
  have CRT := Lib.hid cRt
  have HG1 := Lib.hid hg1
  have HG3 := Lib.hid hg3
  have HG4 := Lib.hid hg4
  have HLO := Lib.hid hlo
  have HLN := Lib.hid hLN
  have HD := Lib.hid hd
  have HRO := Lib.hid hrdo
  have HRD := Lib.hid hrdd
  have HN2 := Lib.hid hnil2
  have HNA := Lib.hid hniA
  clear cW cRt hg1 hg2 hg3 hg4 hlo hd hLN hrdo hrdd hniA hnil2 f fs hN hS fo hSm fof fn fbo
  have hFx : Fr [] w1 (w1.alloc (.cells #[.int .u8 h.tos, .int .u16 h.id, .bool h.df, .bool h.mf, .int .i64 h.off, .int .u8 h.ttl, .int .u8 h.proto, .int .u32 h.src, .int .u32 h.dst, .slice A n c] 30)) := (Fr.refl _ _).alloc _
  have hBx : BoxH (w1.alloc (.cells #[.int .u8 h.tos, .int .u16 h.id, .bool h.df, .bool h.mf, .int .i64 h.off, .int .u8 h.ttl, .int .u8 h.proto, .int .u32 h.src, .int .u32 h.dst, .slice A n c] 30)) w1.heap.size h A n c := heap_alloc_new w1 _
  have HBX := Lib.hid hBx
  clear hBx
  go_wp2_with fail
  refine (CW.out _ hFx).mono ?_
  rintro e w2 ⟨g, cb, rfl, o2, hF2⟩
  replace hFx := hFx.trans hF2
  have hB2 := HBX.out.fr hF2 (by simp)
  have s9 := hB2.c9
  have hE2 : w2.heap[w1.heap.size]? = some (.cells #[.int .u8 h.tos, .int .u16 h.id, .bool h.df, .bool h.mf, .int .i64 h.off, .int .u8 h.ttl, .int .u8 h.proto, .int .u32 h.src, .int .u32 h.dst, .slice A n c] 30 (0, 0)) := hB2
  have HB2 := Lib.hid hB2
  have HE2 := Lib.hid hE2
  have hcb := own_cc o2
  have hlg := (o2.lt g rfl)
  have hgb : w1.heap.size < g ∧ g < w2.heap.size := by simp at hlg; omega
  have O2 := Lib.hid o2
  have HFX := Lib.hid hFx
  clear hB2 hF2 HBX CW hlg o2 hFx hE2
  rcases HYY.out with hyy | hyy | hyy
  · clear HYY
    have hy9 : y = 9 := hyy
    have y0 : ((y : Int) == 0) = false := by rw [hyy]; rfl
    have y1 : ((y : Int) == 1) = false := by rw [hyy]; rfl
    have y2 : ((y : Int) == 2) = false := by rw [hyy]; rfl
    have y3 : ((y : Int) == 3) = false := by rw [hyy]; rfl
    have y4 : ((y : Int) == 4) = false := by rw [hyy]; rfl
    have y5 : ((y : Int) == 5) = false := by rw [hyy]; rfl
    have ylt : ((y : Int) == 6) = false := by rw [hyy]; rfl
    have y7 : ((y : Int) == 7) = false := by rw [hyy]; rfl
    have y8 : ((y : Int) == 8) = false := by rw [hyy]; rfl
    have y9 : ((y : Int) == 9) = true := by rw [hyy]; rfl
    have y10 : ((y : Int) == 10) = false := by rw [hyy]; rfl
    have y11 : ((y : Int) == 11) = false := by rw [hyy]; rfl
    have ylt : ¬ (y : Int) < 6 := by omega
    have yltn : ¬ y < 6 := by omega
    clear hyy hy9
    clear CRT HNA HRO HD HRD HN2 HB2
    obtain ⟨K, hK⟩ : ∃ K, K = S - 19 := ⟨_, rfl⟩
    have x1 : (S : Int) - 19 = (K : Int) := by omega
    obtain ⟨p, hp⟩ : ∃ p : Nat, (nn % ((K : Nat) : Int)).toNat = p := ⟨_, rfl⟩
    have hpk : p < K := by
      have h1 := Int.emod_nonneg nn (show ((K : Nat) : Int) ≠ 0 by omega)
      have h2 := Int.emod_lt_of_pos nn (show (0 : Int) < ((K : Nat) : Int) by omega)
      omega
    have cP : ∀ W, Calls Try.prog 20 #[.int .i64 nn, .int .i64 (((K : Nat) : Int))] W fun e w' => e = .returned (.int .i64 (p : Nat)) ∧ W = w' := fun W => by
      have := pick_any nn K W (by omega) (by omega) hnb
      rw [hp] at this
      exact this
    have CP := Lib.hid cP
    clear cP hp
    obtain ⟨k, hk⟩ : ∃ k, k = 20 + p := ⟨_, rfl⟩
    have x2 : (20 : Int) + (p : Int) = (k : Int) := by omega
    have hkS : 20 ≤ k ∧ k ≤ S := by omega
    have hK40 : K ≤ 41 ∧ p ≤ 40 := by omega
    clear hK hk
    have hkc : k ≤ cb := by omega
    have bb : (0 : Int) ≤ (k : Int) ∧ (k : Int) ≤ (cb : Int) := by omega
    have bb2 : (k : Int) ≤ (cb : Int) := by omega
    have hxl : (L.take k).length = k := by rw [List.length_take, HLN.out]; omega
    have rdX : Rd w2 (some ⟨g, 0, none⟩) (B8 (L.take k)) := by rw [← B8_take]; exact (Rd.own O2.out).take k
    have HFX2 := HFX
    by_cases hkl : k < S
    · have hkli : (k : Int) < (S : Int) := by omega
      have hz : faultN (L.take k) = 52 := by
        rw [wrong_cut HG1.out hkS.1 (by rw [HG3.out]; exact hkS.2) (.inr (by rw [HG3.out]; exact hkl)), HG3.out, if_pos hkl]
      have cN := read_no (some ⟨g, 0, none⟩) k cb (L.take k) w2 hxl rdX hkc (by omega) (by rw [hz]; decide)
      unfold RdNo at cN
      rw [hz] at cN
      have cH := fun W (hW : Fr [] w2 W) => hop_no (some ⟨g, 0, none⟩) k cb (L.take k) W hxl (rdX.fr hW (by simp)) hkc (by omega) (by rw [hz]; decide)
      unfold NoP at cH
      rw [hz] at cH
      have cT := fun W (hW : Fr [] w2 W) => turn_no (some ⟨g, 0, none⟩) k cb (L.take k) W hxl (rdX.fr hW (by simp)) hkc (by omega) (by rw [hz]; decide)
      unfold NoP at cT
      rw [hz] at cT
      have cS := fun W => same5 Hd0 none none 0 0 0 0 W rfl rfl (Rd.nil _ _) (Rd.nil _ _) (by decide)
      unfold HV Hd0 at cS
      simp only at cS
      have CN := Lib.hid cN
      have CH := Lib.hid cH
      have CT := Lib.hid cT
      have CS := Lib.hid cS
      clear cN cH cT cS hxl rdX hz
      go_wp2_with fail
      refine (CP.out _).mono ?_
      rintro e w' ⟨rfl, rfl⟩
      clear CP
      go_wp2_with fail
      refine CN.out.mono ?_
      rintro e w6 ⟨rfl, hF6⟩
      have hBz : BoxH (w6.alloc (.cells #[.int .u8 0, .int .u16 0, .bool false, .bool false, .int .i64 0, .int .u8 0, .int .u8 0, .int .u32 0, .int .u32 0, .slice none 0 0] 30)) w6.heap.size Hd0 none 0 0 := heap_alloc_new w6 _
      have hF7 : Fr [] w2 (w6.alloc (.cells #[.int .u8 0, .int .u16 0, .bool false, .bool false, .int .i64 0, .int .u8 0, .int .u8 0, .int .u32 0, .int .u32 0, .slice none 0 0] 30)) := hF6.alloc _
      have HBZ := Lib.hid hBz
      have HF7 := Lib.hid hF7
      clear hBz hF6 CN
      go_wp2_with fail
      refine (CH.out _ hF7).mono ?_
      rintro e w8 ⟨rfl, hF8⟩
      have hF9 := HF7.out.trans hF8
      have HBZ8 := Lib.hid (HBZ.out.fr hF8 (by simp))
      clear hF7 CH HBZ HF7 hF8
      go_wp2_with fail
      refine (CT.out _ hF9).mono ?_
      rintro e w9 ⟨rfl, hF10⟩
      have hb := HBZ8.out.fr hF10 (by simp)
      have a0 := hb.c0
      have a1 := hb.c1
      have a2 := hb.c2
      have a3 := hb.c3
      have a4 := hb.c4
      have a5 := hb.c5
      have a6 := hb.c6
      have a7 := hb.c7
      have a8 := hb.c8
      have a9 := hb.c9
      unfold Hd0 at a0 a1 a2 a3 a4 a5 a6 a7 a8
      simp only at a0 a1 a2 a3 a4 a5 a6 a7 a8
      have HF11 := Lib.hid (HFX2.out.trans (hF9.trans hF10))
      clear hb hF9 hF10 CT HBZ8 HFX2
      go_wp2_with fail
      refine (CS.out _).mono ?_
      rintro e w10 ⟨rfl, hF12⟩
      clear CS a0 a1 a2 a3 a4 a5 a6 a7 a8 a9
      go_wp2_with fail
      go_ret
      exact ⟨rfl, hF1.trans (HF11.out.trans hF12)⟩
    · have hkli : ¬ (k : Int) < (S : Int) := by omega
      by_cases hm0 : m = 0
      · have hm0i : ((m : Int) == 0) = true := by rw [hm0]; rfl
        clear hm0 hxl rdX
        go_wp2_with fail
        refine (CP.out _).mono ?_
        rintro e w' ⟨rfl, rfl⟩
        clear CP
        go_wp2_with fail
        go_ret
        exact ⟨rfl, hF1.trans HFX.out⟩
      · have hm0i : ((m : Int) == 0) = false := by rw [beq_eq_false_iff_ne]; omega
        have hm0j : ¬ (m : Int) = 0 := by omega
        have hz : faultN (L.take k) = 53 := by
          rw [wrong_cut HG1.out hkS.1 (by rw [HG3.out]; exact hkS.2) (.inl (by rw [HG3.out, HG4.out, HSM.out]; omega)), HG3.out, if_neg hkl]
        have cN := read_no (some ⟨g, 0, none⟩) k cb (L.take k) w2 hxl rdX hkc (by omega) (by rw [hz]; decide)
        unfold RdNo at cN
        rw [hz] at cN
        have cH := fun W (hW : Fr [] w2 W) => hop_no (some ⟨g, 0, none⟩) k cb (L.take k) W hxl (rdX.fr hW (by simp)) hkc (by omega) (by rw [hz]; decide)
        unfold NoP at cH
        rw [hz] at cH
        have cT := fun W (hW : Fr [] w2 W) => turn_no (some ⟨g, 0, none⟩) k cb (L.take k) W hxl (rdX.fr hW (by simp)) hkc (by omega) (by rw [hz]; decide)
        unfold NoP at cT
        rw [hz] at cT
        have cS := fun W => same5 Hd0 none none 0 0 0 0 W rfl rfl (Rd.nil _ _) (Rd.nil _ _) (by decide)
        unfold HV Hd0 at cS
        simp only at cS
        have CN := Lib.hid cN
        have CH := Lib.hid cH
        have CT := Lib.hid cT
        have CS := Lib.hid cS
        clear cN cH cT cS hxl rdX hz
        go_wp2_with fail
        refine (CP.out _).mono ?_
        rintro e w' ⟨rfl, rfl⟩
        clear CP
        go_wp2_with fail
        refine CN.out.mono ?_
        rintro e w6 ⟨rfl, hF6⟩
        have hBz : BoxH (w6.alloc (.cells #[.int .u8 0, .int .u16 0, .bool false, .bool false, .int .i64 0, .int .u8 0, .int .u8 0, .int .u32 0, .int .u32 0, .slice none 0 0] 30)) w6.heap.size Hd0 none 0 0 := heap_alloc_new w6 _
        have hF7 : Fr [] w2 (w6.alloc (.cells #[.int .u8 0, .int .u16 0, .bool false, .bool false, .int .i64 0, .int .u8 0, .int .u8 0, .int .u32 0, .int .u32 0, .slice none 0 0] 30)) := hF6.alloc _
        have HBZ := Lib.hid hBz
        have HF7 := Lib.hid hF7
        clear hBz hF6 CN
        go_wp2_with fail
        refine (CH.out _ hF7).mono ?_
        rintro e w8 ⟨rfl, hF8⟩
        have hF9 := HF7.out.trans hF8
        have HBZ8 := Lib.hid (HBZ.out.fr hF8 (by simp))
        clear hF7 CH HBZ HF7 hF8
        go_wp2_with fail
        refine (CT.out _ hF9).mono ?_
        rintro e w9 ⟨rfl, hF10⟩
        have hb := HBZ8.out.fr hF10 (by simp)
        have a0 := hb.c0
        have a1 := hb.c1
        have a2 := hb.c2
        have a3 := hb.c3
        have a4 := hb.c4
        have a5 := hb.c5
        have a6 := hb.c6
        have a7 := hb.c7
        have a8 := hb.c8
        have a9 := hb.c9
        unfold Hd0 at a0 a1 a2 a3 a4 a5 a6 a7 a8
        simp only at a0 a1 a2 a3 a4 a5 a6 a7 a8
        have HF11 := Lib.hid (HFX2.out.trans (hF9.trans hF10))
        clear hb hF9 hF10 CT HBZ8 HFX2
        go_wp2_with fail
        refine (CS.out _).mono ?_
        rintro e w10 ⟨rfl, hF12⟩
        clear CS a0 a1 a2 a3 a4 a5 a6 a7 a8 a9
        go_wp2_with fail
        go_ret
        exact ⟨rfl, hF1.trans (HF11.out.trans hF12)⟩
  · clear HYY
    have hy10 : y = 10 := hyy
    have y0 : ((y : Int) == 0) = false := by rw [hyy]; rfl
    have y1 : ((y : Int) == 1) = false := by rw [hyy]; rfl
    have y2 : ((y : Int) == 2) = false := by rw [hyy]; rfl
    have y3 : ((y : Int) == 3) = false := by rw [hyy]; rfl
    have y4 : ((y : Int) == 4) = false := by rw [hyy]; rfl
    have y5 : ((y : Int) == 5) = false := by rw [hyy]; rfl
    have ylt : ((y : Int) == 6) = false := by rw [hyy]; rfl
    have y7 : ((y : Int) == 7) = false := by rw [hyy]; rfl
    have y8 : ((y : Int) == 8) = false := by rw [hyy]; rfl
    have y9 : ((y : Int) == 9) = false := by rw [hyy]; rfl
    have y10 : ((y : Int) == 10) = true := by rw [hyy]; rfl
    have y11 : ((y : Int) == 11) = false := by rw [hyy]; rfl
    have ylt : ¬ (y : Int) < 6 := by omega
    have yltn : ¬ y < 6 := by omega
    clear hyy hy10
    clear CRT HNA HRO HD HRD HN2 HB2
    obtain ⟨p, hp⟩ : ∃ p : Nat, (nn % ((S : Nat) : Int)).toNat = p := ⟨_, rfl⟩
    have hpk : p < S := by
      have h1 := Int.emod_nonneg nn (show ((S : Nat) : Int) ≠ 0 by omega)
      have h2 := Int.emod_lt_of_pos nn (show (0 : Int) < ((S : Nat) : Int) by omega)
      omega
    have cP : ∀ W, Calls Try.prog 20 #[.int .i64 nn, .int .i64 (((S : Nat) : Int))] W fun e w' => e = .returned (.int .i64 (p : Nat)) ∧ W = w' := fun W => by
      have := pick_any nn S W (by omega) (by omega) hnb
      rw [hp] at this
      exact this
    have CP := Lib.hid cP
    clear cP hp
    have wp8 : IntKind.u8.wrap (p : Int) = (p : Int) := u8_in (by omega) (by omega)
    have c2_ : ∃ v, w2.cell? ⟨g, 2, none⟩ = some v := by
      obtain ⟨x, hx⟩ : ∃ x, L[2]? = some x := ⟨_, List.getElem?_eq_getElem (by rw [HLN.out]; omega)⟩
      exact ⟨_, own_cell O2.out (j := 2) (by rw [B8_get, hx]; rfl)⟩
    have c3_ : ∃ v, w2.cell? ⟨g, 3, none⟩ = some v := by
      obtain ⟨x, hx⟩ : ∃ x, L[3]? = some x := ⟨_, List.getElem?_eq_getElem (by rw [HLN.out]; omega)⟩
      exact ⟨_, own_cell O2.out (j := 3) (by rw [B8_get, hx]; rfl)⟩
    obtain ⟨v2, c2_⟩ := c2_
    obtain ⟨v3, c3_⟩ := c3_
    have f2_ := own_fz O2.out 2
    have f3_ := own_fz O2.out 3
    have i2 : (2 : Int) < (N : Int) := by omega
    have i3 : (3 : Int) < (N : Int) := by omega
    obtain ⟨wx, hwx⟩ : ∃ wx, wx = (w2.setCell ⟨g, 2, none⟩ (.int .u8 0)).setCell ⟨g, 3, none⟩ (.int .u8 (p : Nat)) := ⟨_, rfl⟩
    have ox := own_set (own_set O2.out 2 (.int .u8 0)) 3 (.int .u8 (p : Nat))
    rw [B8_set (z := 0) L 2 0 rfl, B8_set (z := (p : Nat)) _ 3 (UInt8.ofNat p) (by rw [u8_nat (by omega)]), ← hwx] at ox
    have hFx : Fr [] w1 wx := by rw [hwx]; exact (HFX.out.setCell (p := ⟨g, 2, none⟩) (.inr (by show w1.heap.size ≤ g; omega)) _).setCell (p := ⟨g, 3, none⟩) (.inr (by show w1.heap.size ≤ g; omega)) _
    have HFX2 := Lib.hid hFx
    have OX := Lib.hid ox
    have HWX := Lib.hid hwx
    clear ox hFx hwx HFX O2
    go_wp2_with fail
    refine (CP.out _).mono ?_
    rintro e w' ⟨rfl, rfl⟩
    clear CP
    go_upto_region 41 with (fail)
    clear c2_ c3_ f2_ f3_ i2 i3
    rw [← HWX.out]
    clear HWX
    have hkc : N ≤ cb := hcb.1
    have hxl : ((L.set 2 0).set 3 (UInt8.ofNat p)).length = N := by rw [List.length_set, List.length_set]; exact HLN.out
    have rdX : Rd wx (some ⟨g, 0, none⟩) (B8 ((L.set 2 0).set 3 (UInt8.ofNat p))) := Rd.own OX.out
    have hz : faultN ((L.set 2 0).set 3 (UInt8.ofNat p)) = 53 := wrong_total HG1.out 0 (UInt8.ofNat p) (.inl (by rw [HG3.out, u8_nat (by omega)]; show 256 * 0 + p < S; omega))
    have cN := read_no (some ⟨g, 0, none⟩) N cb ((L.set 2 0).set 3 (UInt8.ofNat p)) wx hxl rdX hkc (by omega) (by rw [hz]; decide)
    unfold RdNo at cN
    rw [hz] at cN
    have cH := fun W (hW : Fr [] wx W) => hop_no (some ⟨g, 0, none⟩) N cb ((L.set 2 0).set 3 (UInt8.ofNat p)) W hxl (rdX.fr hW (by simp)) hkc (by omega) (by rw [hz]; decide)
    unfold NoP at cH
    rw [hz] at cH
    have cT := fun W (hW : Fr [] wx W) => turn_no (some ⟨g, 0, none⟩) N cb ((L.set 2 0).set 3 (UInt8.ofNat p)) W hxl (rdX.fr hW (by simp)) hkc (by omega) (by rw [hz]; decide)
    unfold NoP at cT
    rw [hz] at cT
    have cS := fun W => same5 Hd0 none none 0 0 0 0 W rfl rfl (Rd.nil _ _) (Rd.nil _ _) (by decide)
    unfold HV Hd0 at cS
    simp only at cS
    have CN := Lib.hid cN
    have CH := Lib.hid cH
    have CT := Lib.hid cT
    have CS := Lib.hid cS
    clear cN cH cT cS hxl rdX hz
    go_wp2_with fail
    refine CN.out.mono ?_
    rintro e w6 ⟨rfl, hF6⟩
    have hBz : BoxH (w6.alloc (.cells #[.int .u8 0, .int .u16 0, .bool false, .bool false, .int .i64 0, .int .u8 0, .int .u8 0, .int .u32 0, .int .u32 0, .slice none 0 0] 30)) w6.heap.size Hd0 none 0 0 := heap_alloc_new w6 _
    have hF7 : Fr [] wx (w6.alloc (.cells #[.int .u8 0, .int .u16 0, .bool false, .bool false, .int .i64 0, .int .u8 0, .int .u8 0, .int .u32 0, .int .u32 0, .slice none 0 0] 30)) := hF6.alloc _
    have HBZ := Lib.hid hBz
    have HF7 := Lib.hid hF7
    clear hBz hF6 CN
    go_wp2_with fail
    refine (CH.out _ hF7).mono ?_
    rintro e w8 ⟨rfl, hF8⟩
    have hF9 := HF7.out.trans hF8
    have HBZ8 := Lib.hid (HBZ.out.fr hF8 (by simp))
    clear hF7 CH HBZ HF7 hF8
    go_wp2_with fail
    refine (CT.out _ hF9).mono ?_
    rintro e w9 ⟨rfl, hF10⟩
    have hb := HBZ8.out.fr hF10 (by simp)
    have a0 := hb.c0
    have a1 := hb.c1
    have a2 := hb.c2
    have a3 := hb.c3
    have a4 := hb.c4
    have a5 := hb.c5
    have a6 := hb.c6
    have a7 := hb.c7
    have a8 := hb.c8
    have a9 := hb.c9
    unfold Hd0 at a0 a1 a2 a3 a4 a5 a6 a7 a8
    simp only at a0 a1 a2 a3 a4 a5 a6 a7 a8
    have HF11 := Lib.hid (HFX2.out.trans (hF9.trans hF10))
    clear hb hF9 hF10 CT HBZ8 HFX2
    go_wp2_with fail
    refine (CS.out _).mono ?_
    rintro e w10 ⟨rfl, hF12⟩
    clear CS a0 a1 a2 a3 a4 a5 a6 a7 a8 a9
    go_wp2_with fail
    go_ret
    exact ⟨rfl, hF1.trans (HF11.out.trans hF12)⟩
  · clear HYY
    have hy11 : y = 11 := hyy
    have y0 : ((y : Int) == 0) = false := by rw [hyy]; rfl
    have y1 : ((y : Int) == 1) = false := by rw [hyy]; rfl
    have y2 : ((y : Int) == 2) = false := by rw [hyy]; rfl
    have y3 : ((y : Int) == 3) = false := by rw [hyy]; rfl
    have y4 : ((y : Int) == 4) = false := by rw [hyy]; rfl
    have y5 : ((y : Int) == 5) = false := by rw [hyy]; rfl
    have ylt : ((y : Int) == 6) = false := by rw [hyy]; rfl
    have y7 : ((y : Int) == 7) = false := by rw [hyy]; rfl
    have y8 : ((y : Int) == 8) = false := by rw [hyy]; rfl
    have y9 : ((y : Int) == 9) = false := by rw [hyy]; rfl
    have y10 : ((y : Int) == 10) = false := by rw [hyy]; rfl
    have y11 : ((y : Int) == 11) = true := by rw [hyy]; rfl
    have ylt : ¬ (y : Int) < 6 := by omega
    have yltn : ¬ y < 6 := by omega
    clear hyy hy11
    clear CRT HNA HRO HD HRD HN2 HB2
    have c2_ : ∃ v, w2.cell? ⟨g, 2, none⟩ = some v := by
      obtain ⟨x, hx⟩ : ∃ x, L[2]? = some x := ⟨_, List.getElem?_eq_getElem (by rw [HLN.out]; omega)⟩
      exact ⟨_, own_cell O2.out (j := 2) (by rw [B8_get, hx]; rfl)⟩
    have c3_ : ∃ v, w2.cell? ⟨g, 3, none⟩ = some v := by
      obtain ⟨x, hx⟩ : ∃ x, L[3]? = some x := ⟨_, List.getElem?_eq_getElem (by rw [HLN.out]; omega)⟩
      exact ⟨_, own_cell O2.out (j := 3) (by rw [B8_get, hx]; rfl)⟩
    obtain ⟨v2, c2_⟩ := c2_
    obtain ⟨v3, c3_⟩ := c3_
    have f2_ := own_fz O2.out 2
    have f3_ := own_fz O2.out 3
    have i2 : (2 : Int) < (N : Int) := by omega
    have i3 : (3 : Int) < (N : Int) := by omega
    obtain ⟨wx, hwx⟩ : ∃ wx, wx = (w2.setCell ⟨g, 2, none⟩ (.int .u8 255)).setCell ⟨g, 3, none⟩ (.int .u8 255) := ⟨_, rfl⟩
    have ox := own_set (own_set O2.out 2 (.int .u8 255)) 3 (.int .u8 255)
    rw [B8_set (z := 255) L 2 255 rfl, B8_set (z := 255) _ 3 255 rfl, ← hwx] at ox
    have hFx : Fr [] w1 wx := by rw [hwx]; exact (HFX.out.setCell (p := ⟨g, 2, none⟩) (.inr (by show w1.heap.size ≤ g; omega)) _).setCell (p := ⟨g, 3, none⟩) (.inr (by show w1.heap.size ≤ g; omega)) _
    have HFX2 := Lib.hid hFx
    have OX := Lib.hid ox
    have HWX := Lib.hid hwx
    clear ox hFx hwx HFX O2
    go_upto_region 41 with (fail)
    clear c2_ c3_ f2_ f3_ i2 i3
    rw [← HWX.out]
    clear HWX
    have hkc : N ≤ cb := hcb.1
    have hxl : ((L.set 2 255).set 3 255).length = N := by rw [List.length_set, List.length_set]; exact HLN.out
    have rdX : Rd wx (some ⟨g, 0, none⟩) (B8 ((L.set 2 255).set 3 255)) := Rd.own OX.out
    have hz : faultN ((L.set 2 255).set 3 255) = 53 := wrong_total HG1.out 255 255 (.inr (by rw [HLN.out]; show N < 65535; omega))
    have cN := read_no (some ⟨g, 0, none⟩) N cb ((L.set 2 255).set 3 255) wx hxl rdX hkc (by omega) (by rw [hz]; decide)
    unfold RdNo at cN
    rw [hz] at cN
    have cH := fun W (hW : Fr [] wx W) => hop_no (some ⟨g, 0, none⟩) N cb ((L.set 2 255).set 3 255) W hxl (rdX.fr hW (by simp)) hkc (by omega) (by rw [hz]; decide)
    unfold NoP at cH
    rw [hz] at cH
    have cT := fun W (hW : Fr [] wx W) => turn_no (some ⟨g, 0, none⟩) N cb ((L.set 2 255).set 3 255) W hxl (rdX.fr hW (by simp)) hkc (by omega) (by rw [hz]; decide)
    unfold NoP at cT
    rw [hz] at cT
    have cS := fun W => same5 Hd0 none none 0 0 0 0 W rfl rfl (Rd.nil _ _) (Rd.nil _ _) (by decide)
    unfold HV Hd0 at cS
    simp only at cS
    have CN := Lib.hid cN
    have CH := Lib.hid cH
    have CT := Lib.hid cT
    have CS := Lib.hid cS
    clear cN cH cT cS hxl rdX hz
    go_wp2_with fail
    refine CN.out.mono ?_
    rintro e w6 ⟨rfl, hF6⟩
    have hBz : BoxH (w6.alloc (.cells #[.int .u8 0, .int .u16 0, .bool false, .bool false, .int .i64 0, .int .u8 0, .int .u8 0, .int .u32 0, .int .u32 0, .slice none 0 0] 30)) w6.heap.size Hd0 none 0 0 := heap_alloc_new w6 _
    have hF7 : Fr [] wx (w6.alloc (.cells #[.int .u8 0, .int .u16 0, .bool false, .bool false, .int .i64 0, .int .u8 0, .int .u8 0, .int .u32 0, .int .u32 0, .slice none 0 0] 30)) := hF6.alloc _
    have HBZ := Lib.hid hBz
    have HF7 := Lib.hid hF7
    clear hBz hF6 CN
    go_wp2_with fail
    refine (CH.out _ hF7).mono ?_
    rintro e w8 ⟨rfl, hF8⟩
    have hF9 := HF7.out.trans hF8
    have HBZ8 := Lib.hid (HBZ.out.fr hF8 (by simp))
    clear hF7 CH HBZ HF7 hF8
    go_wp2_with fail
    refine (CT.out _ hF9).mono ?_
    rintro e w9 ⟨rfl, hF10⟩
    have hb := HBZ8.out.fr hF10 (by simp)
    have a0 := hb.c0
    have a1 := hb.c1
    have a2 := hb.c2
    have a3 := hb.c3
    have a4 := hb.c4
    have a5 := hb.c5
    have a6 := hb.c6
    have a7 := hb.c7
    have a8 := hb.c8
    have a9 := hb.c9
    unfold Hd0 at a0 a1 a2 a3 a4 a5 a6 a7 a8
    simp only at a0 a1 a2 a3 a4 a5 a6 a7 a8
    have HF11 := Lib.hid (HFX2.out.trans (hF9.trans hF10))
    clear hb hF9 hF10 CT HBZ8 HFX2
    go_wp2_with fail
    refine (CS.out _).mono ?_
    rintro e w10 ⟨rfl, hF12⟩
    clear CS a0 a1 a2 a3 a4 a5 a6 a7 a8 a9
    go_wp2_with fail
    go_ret
    exact ⟨rfl, hF1.trans (HF11.out.trans hF12)⟩
end Go.Proofs.Ytjpcfphmejenoaa
