/- IpWrong. -/
import Derived.Test.YtjpcfphmejenoaaIpwm
import Derived.StillTailTactics
import Derived.BigQuiet
namespace Go.Proofs.Ytjpcfphmejenoaa
open Go.RowKit
set_option linter.unusedVariables false
set_option maxRecDepth 100000

set_option maxHeartbeats 4000000 in
theorem wrong_b (b : List Nat) (wo fa ma : Nat) (df mf : Bool) (A0 : Option Addr) (n0 c0 : Nat) (xs0 : List UInt8) (wy : Nat) (nn : Int) (w : World) (s0 : b.length = 12 ∧ (∀ x ∈ b, x < 256) ∧ wo < 256 ∧ fa < 256 ∧ ma < 256 ∧ xs0.length = n0 ∧ Rd w A0 (B8 xs0) ∧ (A0 = none → c0 = 0) ∧ n0 ≤ c0 ∧ c0 ≤ maxLen) (hwy : wy < 256) (hw : (Lit.int .i64 nn).wf = true) (hq : wy % 12 = 3 ∨ wy % 12 = 4 ∨ wy % 12 = 5) :
    Calls Try.prog 8 #[SV b wo fa ma df mf A0 n0 c0, .int .u8 wy, .int .i64 nn] w fun e w' => e = .returned (.bool true) ∧ Fr [] w w' := by
  have hnb := bounds_i64 hw
  obtain ⟨y, hy⟩ : ∃ y, y = wy % 12 := ⟨_, rfl⟩
  have z1 : (wy : Int).tmod 12 = (y : Int) := by rw [Int.tmod_eq_emod_of_nonneg (by omega)]; omega
  have z2 : (wy : Int) % 12 = (y : Int) := by omega
  have y12 : y < 12 := by omega
  have hyy : y = 3 ∨ y = 4 ∨ y = 5 := by omega
  have HYY := Lib.hid hyy
  clear hyy hq
  clear hy
  obtain ⟨mn, hmn1, hmn2⟩ : ∃ mn : Int, (if (-1 : Int) < nn then -1 else nn) = mn ∧ (mn ≤ -1 ∧ -9223372036854775808 ≤ mn) := ⟨_, rfl, by split <;> omega⟩
  obtain ⟨mx, hmx1, hmx2⟩ : ∃ mx : Int, (if nn < (65516 : Int) then 65516 else nn) = mx ∧ (65516 ≤ mx ∧ mx ≤ 9223372036854775807) := ⟨_, rfl, by split <;> omega⟩
  have HM1 := Lib.hid hmn1
  have HM2 := Lib.hid hmx1
  clear hmn1 hmx1 hw
  obtain ⟨hb12, hb, hwo, hfa, hma, hl, hrd, hnil, hnc, hcm⟩ := s0
  have hg : ∀ k, b.getD k 0 < 256 := fun k => by
    by_cases h : k < b.length
    · rw [List.getD_eq_getElem?_getD, List.getElem?_eq_getElem h]; exact hb _ (List.getElem_mem h)
    · rw [List.getD_eq_getElem?_getD, List.getElem?_eq_none (by omega)]; decide
  have cM := fun W (hW : Fr [] w W) => made5 b wo fa ma df mf A0 n0 c0 xs0 W hg hwo hfa hma hl (hrd.fr hW (by simp)) hnil hnc (by simp only [maxLen] at hcm; omega)
  unfold SV at cM ⊢
  generalize b.getD 0 0 = b0 at cM ⊢
  generalize b.getD 1 0 = b1 at cM ⊢
  generalize b.getD 2 0 = b2 at cM ⊢
  generalize b.getD 3 0 = b3 at cM ⊢
  generalize b.getD 4 0 = b4 at cM ⊢
  generalize b.getD 5 0 = b5 at cM ⊢
  generalize b.getD 6 0 = b6 at cM ⊢
  generalize b.getD 7 0 = b7 at cM ⊢
  generalize b.getD 8 0 = b8 at cM ⊢
  generalize b.getD 9 0 = b9 at cM ⊢
  generalize b.getD 10 0 = b10 at cM ⊢
  generalize b.getD 11 0 = b11 at cM ⊢
  have cA := fun W => awake5 W
  have CM := Lib.hid cM
  have CA := Lib.hid cA
  clear cM cA hl hrd hnil hg hb hb12 hnc hcm hwo hfa hma
  have hX0 : Blk (w.alloc (.cells #[.int .u8 b0, .int .u8 b1, .int .u8 b2, .int .u8 b3, .int .u8 b4, .int .u8 b5, .int .u8 b6, .int .u8 b7, .int .u8 b8, .int .u8 b9, .int .u8 b10, .int .u8 b11, .int .u8 wo, .int .u8 fa, .int .u8 ma, .bool df, .bool mf, .slice A0 n0 c0] 25)) w.heap.size #[.int .u8 b0, .int .u8 b1, .int .u8 b2, .int .u8 b3, .int .u8 b4, .int .u8 b5, .int .u8 b6, .int .u8 b7, .int .u8 b8, .int .u8 b9, .int .u8 b10, .int .u8 b11, .int .u8 wo, .int .u8 fa, .int .u8 ma, .bool df, .bool mf, .slice A0 n0 c0] 25 := blk_new w _ _ rfl
  have hF0 : Fr [] w (w.alloc (.cells #[.int .u8 b0, .int .u8 b1, .int .u8 b2, .int .u8 b3, .int .u8 b4, .int .u8 b5, .int .u8 b6, .int .u8 b7, .int .u8 b8, .int .u8 b9, .int .u8 b10, .int .u8 b11, .int .u8 wo, .int .u8 fa, .int .u8 ma, .bool df, .bool mf, .slice A0 n0 c0] 25)) := (Fr.refl _ _).alloc _
  have HX0 := Lib.hid hX0
  clear hX0
  go_enter Try.func8, Try.ntmps8
  go_wp2_with fail
  refine (CA.out _).mono ?_
  rintro e wa ⟨rfl, hFa⟩
  have hX1 := HX0.out.fr hFa (by simp)
  have HX1 := Lib.hid hX1
  replace hFa := hF0.trans hFa
  clear hX1 HX0 hF0 CA
  go_wp2_with (refine wpList_load_row rfl 25 _ rfl w.heap.size rfl _ _ _ _ HX1.out Try.underlying25 rfl (by kernel_rfl) ?_)
  refine (CM.out _ hFa).mono ?_
  rintro e w1 ⟨h, A, n, c, d, A2, m, c2, rfl, f, hd, hm80, hlo, hrdo, hniA, hnc, hrdd, hnil2, hmc2, hcm2, hF1⟩
  clear HX1 CM
  replace hF1 := hFa.trans hF1
  clear hFa
  have hLN : (wrN h d).length = 20 + n + m := by rw [wrN_length]; omega
  have fo := f.o
  have fof := f.off
  have fbo := f.b.off
  have fn := f.n
  have hn40 : n ≤ 40 ∧ n % 4 = 0 := by omega
  have hoff : 0 ≤ h.off ∧ h.off % 8 = 0 ∧ h.off ≤ 65515 := by omega
  have cW := fun W (hW : Fr [] w1 W) => write_yes h d A A2 n c m c2 W hlo (hrdo.fr hW (by simp)) hniA hd (hrdd.fr hW (by simp)) hnil2 f
  have fs : Fits h d.length := by rw [hd]; exact f
  have hg := good_wr fs []
  rw [List.append_nil] at hg
  obtain ⟨hg1, hg2, hg3, hg4⟩ := hg
  obtain ⟨N, hN⟩ : ∃ N, N = 20 + n + m := ⟨_, rfl⟩
  obtain ⟨S, hS⟩ : ∃ S, S = 20 + n := ⟨_, rfl⟩
  rw [hlo, ← hS] at hg3
  rw [hlo, hd, ← hN] at hg4
  rw [← hN] at hLN
  have hNb : N ≤ 140 := by omega
  have hN20 : S ≤ N := by omega
  have hS20 : 20 ≤ S := by omega
  have hS60 : S ≤ 60 := by omega
  have hSm : N = S + m := by omega
  have HSM := Lib.hid hSm
  have hS1 : (20 : Int) + (n : Int) = (S : Int) := by omega
  have cRt := fun z W => right5_any h A n c z W hlo (by omega) f.b.off
  unfold WrYes at cW
  rw [hLN] at cW
  generalize wrN h d = L at cW hLN hg1 hg2 hg3 hg4
  unfold HV at cW cRt ⊢
  have CW := Lib.hid cW
  have CRT := Lib.hid cRt
  have HG1 := Lib.hid hg1
  have HG3 := Lib.hid hg3
  have HG4 := Lib.hid hg4
  have HLO := Lib.hid hlo
  have HLN := Lib.hid hLN
  have HD := Lib.hid hd
  have HRO := Lib.hid hrdo
  have HRD := Lib.hid hrdd
  have HN2 := Lib.hid hnil2
  have HNA := Lib.hid hniA
  clear cW cRt hg1 hg2 hg3 hg4 hlo hd hLN hrdo hrdd hniA hnil2 f fs hN hS fo hSm fof fn fbo
  have hFx : Fr [] w1 (w1.alloc (.cells #[.int .u8 h.tos, .int .u16 h.id, .bool h.df, .bool h.mf, .int .i64 h.off, .int .u8 h.ttl, .int .u8 h.proto, .int .u32 h.src, .int .u32 h.dst, .slice A n c] 30)) := (Fr.refl _ _).alloc _
  have hBx : BoxH (w1.alloc (.cells #[.int .u8 h.tos, .int .u16 h.id, .bool h.df, .bool h.mf, .int .i64 h.off, .int .u8 h.ttl, .int .u8 h.proto, .int .u32 h.src, .int .u32 h.dst, .slice A n c] 30)) w1.heap.size h A n c := heap_alloc_new w1 _
  have HBX := Lib.hid hBx
  clear hBx
  go_wp2_with fail
  refine (CW.out _ hFx).mono ?_
  rintro e w2 ⟨g, cb, rfl, o2, hF2⟩
  replace hFx := hFx.trans hF2
  have hB2 := HBX.out.fr hF2 (by simp)
  have s9 := hB2.c9
  have hE2 : w2.heap[w1.heap.size]? = some (.cells #[.int .u8 h.tos, .int .u16 h.id, .bool h.df, .bool h.mf, .int .i64 h.off, .int .u8 h.ttl, .int .u8 h.proto, .int .u32 h.src, .int .u32 h.dst, .slice A n c] 30 (0, 0)) := hB2
  have HB2 := Lib.hid hB2
  have HE2 := Lib.hid hE2
  have hcb := own_cc o2
  have hlg := (o2.lt g rfl)
  have hgb : w1.heap.size < g ∧ g < w2.heap.size := by simp at hlg; omega
  have O2 := Lib.hid o2
  have HFX := Lib.hid hFx
  clear hB2 hF2 HBX CW hlg o2 hFx hE2
  rcases HYY.out with hyy | hyy | hyy
  · clear HYY
    have hy3 : y = 3 := hyy
    have y0 : ((y : Int) == 0) = false := by rw [hyy]; rfl
    have y1 : ((y : Int) == 1) = false := by rw [hyy]; rfl
    have y2 : ((y : Int) == 2) = false := by rw [hyy]; rfl
    have y3 : ((y : Int) == 3) = true := by rw [hyy]; rfl
    have y4 : ((y : Int) == 4) = false := by rw [hyy]; rfl
    have y5 : ((y : Int) == 5) = false := by rw [hyy]; rfl
    have ylt : ((y : Int) == 6) = false := by rw [hyy]; rfl
    have y7 : ((y : Int) == 7) = false := by rw [hyy]; rfl
    have y8 : ((y : Int) == 8) = false := by rw [hyy]; rfl
    have y9 : ((y : Int) == 9) = false := by rw [hyy]; rfl
    have y10 : ((y : Int) == 10) = false := by rw [hyy]; rfl
    have y11 : ((y : Int) == 11) = false := by rw [hyy]; rfl
    have ylt : (y : Int) < 6 := by omega
    have yltn : y < 6 := by omega
    clear hyy hy3
    obtain ⟨q, hq, hq2⟩ := and_12 nn
    obtain ⟨K, hK⟩ : ∃ K, K = 44 + q := ⟨_, rfl⟩
    have x2 : (44 : Int) + (q : Int) = (K : Int) := by omega
    have hK8 : 40 < K ∧ K < 60 := by omega
    clear hK hq2
    obtain ⟨w4, hm, hF4⟩ := make_any (w2.alloc (.cells #[.int .u8 h.tos, .int .u16 h.id, .bool h.df, .bool h.mf, .int .i64 h.off, .int .u8 h.ttl, .int .u8 h.proto, .int .u32 h.src, .int .u32 h.dst, .slice A n c] 30)) K (by omega)
    rw [World.size_alloc] at hm
    have hlb : (⟨h.tos, h.id, h.df, h.mf, h.off, h.ttl, h.proto, h.src, h.dst, (List.replicate K 0)⟩ : Hd).o.length = K := List.length_replicate
    have hnr : rightB (⟨h.tos, h.id, h.df, h.mf, h.off, h.ttl, h.proto, h.src, h.dst, (List.replicate K 0)⟩ : Hd) ((m : Nat) : Int) = false := right_f1 (room_false (.inl (by show 40 < (List.replicate K (0 : UInt8)).length; rw [List.length_replicate]; omega)))
    have hnn : K ≤ 140737488351232 := by omega
    have hob : -9223372036854775808 ≤ (⟨h.tos, h.id, h.df, h.mf, h.off, h.ttl, h.proto, h.src, h.dst, (List.replicate K 0)⟩ : Hd).off ∧ (⟨h.tos, h.id, h.df, h.mf, h.off, h.ttl, h.proto, h.src, h.dst, (List.replicate K 0)⟩ : Hd).off ≤ 9223372036854775807 := by show -9223372036854775808 ≤ h.off ∧ h.off ≤ 9223372036854775807; omega
    have cN := fun W => write_no (⟨h.tos, h.id, h.df, h.mf, h.off, h.ttl, h.proto, h.src, h.dst, (List.replicate K 0)⟩ : Hd) (some ⟨w2.heap.size + 1, 0, none⟩) A2 K K m c2 W hlb hnn hob hnr
    have cB := fun W => right5_any (⟨h.tos, h.id, h.df, h.mf, h.off, h.ttl, h.proto, h.src, h.dst, (List.replicate K 0)⟩ : Hd) (some ⟨w2.heap.size + 1, 0, none⟩) K K ((m : Nat) : Int) W hlb hnn hob
    rw [hnr] at cB
    have c1 := CRT.out mn
    have c2' := CRT.out mx
    rw [right_f1 (room_false (by omega))] at c1
    rw [right_f1 (room_false (by omega))] at c2'
    unfold HV at cN cB
    simp only at cN cB
    unfold WrNo at cN
    have CN := Lib.hid cN
    have CB := Lib.hid cB
    have C1 := Lib.hid c1
    have C2 := Lib.hid c2'
    clear cN cB c1 c2' hlb hnr hnn hob CRT
    have hmn1 := HM1.out
    have hmx1 := HM2.out
    have hB4 : BoxH w4 w2.heap.size h A n c := hF4.blk (heap_alloc_new w2 _) (by simp)
    have hG4 := (HB2.out.fr ((Fr.refl [] w2).alloc (.cells #[.int .u8 h.tos, .int .u16 h.id, .bool h.df, .bool h.mf, .int .i64 h.off, .int .u8 h.ttl, .int .u8 h.proto, .int .u32 h.src, .int .u32 h.dst, .slice A n c] 30)) (by simp)).fr hF4 (by simp)
    have hF14 := (HFX.out.alloc (.cells #[.int .u8 h.tos, .int .u16 h.id, .bool h.df, .bool h.mf, .int .i64 h.off, .int .u8 h.ttl, .int .u8 h.proto, .int .u32 h.src, .int .u32 h.dst, .slice A n c] 30)).trans hF4
    have f9 := box_fz hB4 9
    have f3 := box_fz hB4 3
    have k9 := hB4.c9
    have k3 := hB4.c3
    have HB4 := Lib.hid hB4
    have HG4x := Lib.hid hG4
    have HF14 := Lib.hid hF14
    clear hB4 hG4 hF14 hF4 HB2
    go_upto_region 22 with (first | (refine wpList_load_row rfl 30 _ rfl (w1.heap.size) rfl _ _ _ _ HE2.out Try.underlying30 rfl (by kernel_rfl) ?_))
    clear f9 f3 k9 k3
    obtain ⟨ww, hww⟩ : ∃ ww, ww = w4.setCell ⟨w2.heap.size, 9, none⟩ (.slice (some ⟨w2.heap.size + 1, 0, none⟩) K K) := ⟨_, rfl⟩
    have hBB : BoxH ww w2.heap.size (⟨h.tos, h.id, h.df, h.mf, h.off, h.ttl, h.proto, h.src, h.dst, (List.replicate K 0)⟩ : Hd) (some ⟨w2.heap.size + 1, 0, none⟩) K K := by rw [hww]; exact HB4.out.set9 _ _ _
    have hFF : Fr [w2.heap.size] w4 ww := by rw [hww]; exact (Fr.refl _ _).setCell (.inl (by simp)) _
    rw [← hww]
    clear hww
    have hEB : ww.heap[w2.heap.size]? = some (.cells #[.int .u8 h.tos, .int .u16 h.id, .bool h.df, .bool h.mf, .int .i64 h.off, .int .u8 h.ttl, .int .u8 h.proto, .int .u32 h.src, .int .u32 h.dst, .slice (some ⟨w2.heap.size + 1, 0, none⟩) K K] 30 (0, 0)) := hBB
    have hl2 := lt_of_block HE2.out
    have HBB := Lib.hid hBB
    have HEB := Lib.hid hEB
    have HFW := Lib.hid (HF14.out.trans2 hFF (by simp; omega))
    have HBG := Lib.hid (HG4x.out.fr hFF (by simp; omega))
    clear hBB hEB hFF HB4 HG4x HF14
    go_wp2_with (refine wpList_load_row rfl 30 _ rfl (w2.heap.size) rfl _ _ _ _ HEB.out Try.underlying30 rfl (by kernel_rfl) ?_)
    refine (CN.out _).mono ?_
    rintro e wn ⟨rfl, hFn⟩
    have hb3 := HBB.out.fr hFn (by simp)
    have a0 := hb3.c0
    have a1 := hb3.c1
    have a2 := hb3.c2
    have a3 := hb3.c3
    have a4 := hb3.c4
    have a5 := hb3.c5
    have a6 := hb3.c6
    have a7 := hb3.c7
    have a8 := hb3.c8
    have a9 := hb3.c9
    have hF3 := HFW.out.trans hFn
    have hg3 := HBG.out.fr hFn (by simp)
    have HG3' := Lib.hid hg3
    have HF3 := Lib.hid hF3
    clear hb3 hg3 hF3 hFn CN HBB HBG HFW HEB
    go_wp2_with fail
    refine (CB.out _).mono ?_
    rintro e wo ⟨rfl, hFo⟩
    clear a0 a1 a2 a3 a4 a5 a6 a7 a8 a9 CB
    have hg3 := HG3'.out.fr hFo (by simp)
    have d0 := hg3.c0
    have d1 := hg3.c1
    have d2 := hg3.c2
    have d3 := hg3.c3
    have d4 := hg3.c4
    have d5 := hg3.c5
    have d6 := hg3.c6
    have d7 := hg3.c7
    have d8 := hg3.c8
    have d9 := hg3.c9
    have HG4' := Lib.hid hg3
    have HF4 := Lib.hid (HF3.out.trans hFo)
    clear hg3 hFo HG3' HF3
    go_wp2_with fail
    refine (C1.out _).mono ?_
    rintro e wp ⟨rfl, hFp⟩
    clear d0 d1 d2 d3 d4 d5 d6 d7 d8 d9 C1
    have hg3 := HG4'.out.fr hFp (by simp)
    have d0 := hg3.c0
    have d1 := hg3.c1
    have d2 := hg3.c2
    have d3 := hg3.c3
    have d4 := hg3.c4
    have d5 := hg3.c5
    have d6 := hg3.c6
    have d7 := hg3.c7
    have d8 := hg3.c8
    have d9 := hg3.c9
    have HF5 := Lib.hid (HF4.out.trans hFp)
    clear hg3 hFp HG4' HF4
    go_wp2_with fail
    refine (C2.out _).mono ?_
    rintro e wq ⟨rfl, hFq⟩
    clear d0 d1 d2 d3 d4 d5 d6 d7 d8 d9 C2
    go_wp2_with fail
    go_ret
    exact ⟨rfl, hF1.trans (HF5.out.trans hFq)⟩
  · clear HYY
    have hy4 : y = 4 := hyy
    have y0 : ((y : Int) == 0) = false := by rw [hyy]; rfl
    have y1 : ((y : Int) == 1) = false := by rw [hyy]; rfl
    have y2 : ((y : Int) == 2) = false := by rw [hyy]; rfl
    have y3 : ((y : Int) == 3) = false := by rw [hyy]; rfl
    have y4 : ((y : Int) == 4) = true := by rw [hyy]; rfl
    have y5 : ((y : Int) == 5) = false := by rw [hyy]; rfl
    have ylt : ((y : Int) == 6) = false := by rw [hyy]; rfl
    have y7 : ((y : Int) == 7) = false := by rw [hyy]; rfl
    have y8 : ((y : Int) == 8) = false := by rw [hyy]; rfl
    have y9 : ((y : Int) == 9) = false := by rw [hyy]; rfl
    have y10 : ((y : Int) == 10) = false := by rw [hyy]; rfl
    have y11 : ((y : Int) == 11) = false := by rw [hyy]; rfl
    have ylt : (y : Int) < 6 := by omega
    have yltn : y < 6 := by omega
    clear hyy hy4
    obtain ⟨q, hq, hq2⟩ := and_1 nn
    obtain ⟨K, hK⟩ : ∃ K, K = 1 + q := ⟨_, rfl⟩
    have x2 : (1 : Int) + (q : Int) = (K : Int) := by omega
    have hK8 : 1 ≤ K ∧ K ≤ 2 := by omega
    clear hK hq2
    have hnz : A = none → n = 0 := fun e => by have := HNA.out e; omega
    obtain ⟨v4, w4, hm, A4, c4, rfl, hF4⟩ := afz_any (w2.alloc (.cells #[.int .u8 h.tos, .int .u16 h.id, .bool h.df, .bool h.mf, .int .i64 h.off, .int .u8 h.ttl, .int .u8 h.proto, .int .u32 h.src, .int .u32 h.dst, .slice A n c] 30)) A n h.o HLO.out (HRO.out.fr (HFX.out.alloc _) (by simp)) hnz K (by omega)
    clear hnz
    have bb : (0 : Int) ≤ (n : Int) ∧ (n : Int) ≤ (n : Int) ∧ (n : Int) ≤ (c : Int) := by omega
    have bb2 : (n : Int) ≤ (c : Int) := by omega
    have hlb : (⟨h.tos, h.id, h.df, h.mf, h.off, h.ttl, h.proto, h.src, h.dst, (List.replicate (n + K) 0)⟩ : Hd).o.length = (n + K) := List.length_replicate
    have hnr : rightB (⟨h.tos, h.id, h.df, h.mf, h.off, h.ttl, h.proto, h.src, h.dst, (List.replicate (n + K) 0)⟩ : Hd) ((m : Nat) : Int) = false := right_f1 (room_false (.inr (.inl (by show (List.replicate (n + K) (0 : UInt8)).length % 4 ≠ 0; rw [List.length_replicate]; omega))))
    have hnn : (n + K) ≤ 140737488351232 := by omega
    have hob : -9223372036854775808 ≤ (⟨h.tos, h.id, h.df, h.mf, h.off, h.ttl, h.proto, h.src, h.dst, (List.replicate (n + K) 0)⟩ : Hd).off ∧ (⟨h.tos, h.id, h.df, h.mf, h.off, h.ttl, h.proto, h.src, h.dst, (List.replicate (n + K) 0)⟩ : Hd).off ≤ 9223372036854775807 := by show -9223372036854775808 ≤ h.off ∧ h.off ≤ 9223372036854775807; omega
    have cN := fun W => write_no (⟨h.tos, h.id, h.df, h.mf, h.off, h.ttl, h.proto, h.src, h.dst, (List.replicate (n + K) 0)⟩ : Hd) A4 A2 (n + K) c4 m c2 W hlb hnn hob hnr
    have cB := fun W => right5_any (⟨h.tos, h.id, h.df, h.mf, h.off, h.ttl, h.proto, h.src, h.dst, (List.replicate (n + K) 0)⟩ : Hd) A4 (n + K) c4 ((m : Nat) : Int) W hlb hnn hob
    rw [hnr] at cB
    have c1 := CRT.out mn
    have c2' := CRT.out mx
    rw [right_f1 (room_false (by omega))] at c1
    rw [right_f1 (room_false (by omega))] at c2'
    unfold HV at cN cB
    simp only at cN cB
    unfold WrNo at cN
    have CN := Lib.hid cN
    have CB := Lib.hid cB
    have C1 := Lib.hid c1
    have C2 := Lib.hid c2'
    clear cN cB c1 c2' hlb hnr hnn hob CRT
    have hmn1 := HM1.out
    have hmx1 := HM2.out
    have hB4 : BoxH w4 w2.heap.size h A n c := hF4.blk (heap_alloc_new w2 _) (by simp)
    have hG4 := (HB2.out.fr ((Fr.refl [] w2).alloc (.cells #[.int .u8 h.tos, .int .u16 h.id, .bool h.df, .bool h.mf, .int .i64 h.off, .int .u8 h.ttl, .int .u8 h.proto, .int .u32 h.src, .int .u32 h.dst, .slice A n c] 30)) (by simp)).fr hF4 (by simp)
    have hF14 := (HFX.out.alloc (.cells #[.int .u8 h.tos, .int .u16 h.id, .bool h.df, .bool h.mf, .int .i64 h.off, .int .u8 h.ttl, .int .u8 h.proto, .int .u32 h.src, .int .u32 h.dst, .slice A n c] 30)).trans hF4
    have f9 := box_fz hB4 9
    have f3 := box_fz hB4 3
    have k9 := hB4.c9
    have k3 := hB4.c3
    have HB4 := Lib.hid hB4
    have HG4x := Lib.hid hG4
    have HF14 := Lib.hid hF14
    clear hB4 hG4 hF14 hF4 HB2
    go_upto_region 22 with (first | (refine wpList_load_row rfl 30 _ rfl (w1.heap.size) rfl _ _ _ _ HE2.out Try.underlying30 rfl (by kernel_rfl) ?_) | (at_builtin; refine wpList_app rfl _ _ _ rfl hm rfl rfl ?_))
    clear f9 f3 k9 k3
    obtain ⟨ww, hww⟩ : ∃ ww, ww = w4.setCell ⟨w2.heap.size, 9, none⟩ (.slice A4 (n + K) c4) := ⟨_, rfl⟩
    have hBB : BoxH ww w2.heap.size (⟨h.tos, h.id, h.df, h.mf, h.off, h.ttl, h.proto, h.src, h.dst, (List.replicate (n + K) 0)⟩ : Hd) A4 (n + K) c4 := by rw [hww]; exact HB4.out.set9 _ _ _
    have hFF : Fr [w2.heap.size] w4 ww := by rw [hww]; exact (Fr.refl _ _).setCell (.inl (by simp)) _
    rw [← hww]
    clear hww
    have hEB : ww.heap[w2.heap.size]? = some (.cells #[.int .u8 h.tos, .int .u16 h.id, .bool h.df, .bool h.mf, .int .i64 h.off, .int .u8 h.ttl, .int .u8 h.proto, .int .u32 h.src, .int .u32 h.dst, .slice A4 (n + K) c4] 30 (0, 0)) := hBB
    have hl2 := lt_of_block HE2.out
    have HBB := Lib.hid hBB
    have HEB := Lib.hid hEB
    have HFW := Lib.hid (HF14.out.trans2 hFF (by simp; omega))
    have HBG := Lib.hid (HG4x.out.fr hFF (by simp; omega))
    clear hBB hEB hFF HB4 HG4x HF14
    go_wp2_with (refine wpList_load_row rfl 30 _ rfl (w2.heap.size) rfl _ _ _ _ HEB.out Try.underlying30 rfl (by kernel_rfl) ?_)
    refine (CN.out _).mono ?_
    rintro e wn ⟨rfl, hFn⟩
    have hb3 := HBB.out.fr hFn (by simp)
    have a0 := hb3.c0
    have a1 := hb3.c1
    have a2 := hb3.c2
    have a3 := hb3.c3
    have a4 := hb3.c4
    have a5 := hb3.c5
    have a6 := hb3.c6
    have a7 := hb3.c7
    have a8 := hb3.c8
    have a9 := hb3.c9
    have hF3 := HFW.out.trans hFn
    have hg3 := HBG.out.fr hFn (by simp)
    have HG3' := Lib.hid hg3
    have HF3 := Lib.hid hF3
    clear hb3 hg3 hF3 hFn CN HBB HBG HFW HEB
    go_wp2_with fail
    refine (CB.out _).mono ?_
    rintro e wo ⟨rfl, hFo⟩
    clear a0 a1 a2 a3 a4 a5 a6 a7 a8 a9 CB
    have hg3 := HG3'.out.fr hFo (by simp)
    have d0 := hg3.c0
    have d1 := hg3.c1
    have d2 := hg3.c2
    have d3 := hg3.c3
    have d4 := hg3.c4
    have d5 := hg3.c5
    have d6 := hg3.c6
    have d7 := hg3.c7
    have d8 := hg3.c8
    have d9 := hg3.c9
    have HG4' := Lib.hid hg3
    have HF4 := Lib.hid (HF3.out.trans hFo)
    clear hg3 hFo HG3' HF3
    go_wp2_with fail
    refine (C1.out _).mono ?_
    rintro e wp ⟨rfl, hFp⟩
    clear d0 d1 d2 d3 d4 d5 d6 d7 d8 d9 C1
    have hg3 := HG4'.out.fr hFp (by simp)
    have d0 := hg3.c0
    have d1 := hg3.c1
    have d2 := hg3.c2
    have d3 := hg3.c3
    have d4 := hg3.c4
    have d5 := hg3.c5
    have d6 := hg3.c6
    have d7 := hg3.c7
    have d8 := hg3.c8
    have d9 := hg3.c9
    have HF5 := Lib.hid (HF4.out.trans hFp)
    clear hg3 hFp HG4' HF4
    go_wp2_with fail
    refine (C2.out _).mono ?_
    rintro e wq ⟨rfl, hFq⟩
    clear d0 d1 d2 d3 d4 d5 d6 d7 d8 d9 C2
    go_wp2_with fail
    go_ret
    exact ⟨rfl, hF1.trans (HF5.out.trans hFq)⟩
  · clear HYY
    have hy5 : y = 5 := hyy
    have y0 : ((y : Int) == 0) = false := by rw [hyy]; rfl
    have y1 : ((y : Int) == 1) = false := by rw [hyy]; rfl
    have y2 : ((y : Int) == 2) = false := by rw [hyy]; rfl
    have y3 : ((y : Int) == 3) = false := by rw [hyy]; rfl
    have y4 : ((y : Int) == 4) = false := by rw [hyy]; rfl
    have y5 : ((y : Int) == 5) = true := by rw [hyy]; rfl
    have ylt : ((y : Int) == 6) = false := by rw [hyy]; rfl
    have y7 : ((y : Int) == 7) = false := by rw [hyy]; rfl
    have y8 : ((y : Int) == 8) = false := by rw [hyy]; rfl
    have y9 : ((y : Int) == 9) = false := by rw [hyy]; rfl
    have y10 : ((y : Int) == 10) = false := by rw [hyy]; rfl
    have y11 : ((y : Int) == 11) = false := by rw [hyy]; rfl
    have ylt : (y : Int) < 6 := by omega
    have yltn : y < 6 := by omega
    clear hyy hy5
    obtain ⟨k, hk⟩ : ∃ k, k = m / 8 := ⟨_, rfl⟩
    obtain ⟨m8, hm8⟩ : ∃ m8, m8 = k * 8 := ⟨_, rfl⟩
    have x1 : (m : Int).tdiv 8 = (k : Int) := by rw [Int.tdiv_eq_ediv_of_nonneg (by omega)]; omega
    have x2 : (m : Int) / 8 = (k : Int) := by omega
    have x3 : (k : Int) * 8 = (m8 : Int) := by omega
    have hm88 : m8 % 8 = 0 ∧ m8 ≤ m := by omega
    have hk10 : k ≤ 10 := by omega
    clear hk hm8
    have hnz : A2 = none → m8 = 0 := fun e => by have := HN2.out e; omega
    obtain ⟨v4, w4, hm, A4, c4, rfl, _, _, _, _, hF40⟩ := afl_run (P := Try.prog) (t := 23) (e := 5) (bytes := 1) el8 ((w2.alloc (.cells #[.int .u8 h.tos, .int .u16 h.id, .bool h.df, .bool h.mf, .int .i64 h.off, .int .u8 h.ttl, .int .u8 h.proto, .int .u32 h.src, .int .u32 h.dst, .slice A n c] 30)).alloc (.cells (B8 [1, 2, 3]).toArray 5)) 23 A2 m8 (B8 (d.take m8)) (by rw [B8_length, List.length_take, HD.out]; omega) (by rw [← B8_take]; exact (HRD.out.fr ((HFX.out.alloc _).alloc _) (by simp)).take m8) hnz (some ⟨((w2.alloc (.cells #[.int .u8 h.tos, .int .u16 h.id, .bool h.df, .bool h.mf, .int .i64 h.off, .int .u8 h.ttl, .int .u8 h.proto, .int .u32 h.src, .int .u32 h.dst, .slice A n c] 30))).heap.size, 0, none⟩) 3 3 (B8 [1, 2, 3]) rfl (rd_new (w2.alloc (.cells #[.int .u8 h.tos, .int .u16 h.id, .bool h.df, .bool h.mf, .int .i64 h.off, .int .u8 h.ttl, .int .u8 h.proto, .int .u32 h.src, .int .u32 h.dst, .slice A n c] 30)) [1, 2, 3] 5) (B8_one _) (by simp) (by unfold maxLen; omega) (by omega)
    have hF4 : Fr [] (w2.alloc (.cells #[.int .u8 h.tos, .int .u16 h.id, .bool h.df, .bool h.mf, .int .i64 h.off, .int .u8 h.ttl, .int .u8 h.proto, .int .u32 h.src, .int .u32 h.dst, .slice A n c] 30)) w4 := ((Fr.refl _ _).alloc _).trans hF40
    rw [World.size_alloc] at hm
    clear hnz hF40
    have bb : (0 : Int) ≤ (m8 : Int) ∧ (m8 : Int) ≤ (m8 : Int) ∧ (m8 : Int) ≤ (c2 : Int) := by omega
    have bb2 : (m8 : Int) ≤ (c2 : Int) := by omega
    have hlb : (⟨h.tos, h.id, h.df, true, h.off, h.ttl, h.proto, h.src, h.dst, h.o⟩ : Hd).o.length = n := HLO.out
    have hnr : rightB (⟨h.tos, h.id, h.df, true, h.off, h.ttl, h.proto, h.src, h.dst, h.o⟩ : Hd) (((m8 + 3) : Nat) : Int) = false := right_f3 (by show partB true ((m8 + 3 : Nat) : Int) = false; simp [partB]; omega)
    have hnn : n ≤ 140737488351232 := by omega
    have hob : -9223372036854775808 ≤ (⟨h.tos, h.id, h.df, true, h.off, h.ttl, h.proto, h.src, h.dst, h.o⟩ : Hd).off ∧ (⟨h.tos, h.id, h.df, true, h.off, h.ttl, h.proto, h.src, h.dst, h.o⟩ : Hd).off ≤ 9223372036854775807 := by show -9223372036854775808 ≤ h.off ∧ h.off ≤ 9223372036854775807; omega
    have cN := fun W => write_no (⟨h.tos, h.id, h.df, true, h.off, h.ttl, h.proto, h.src, h.dst, h.o⟩ : Hd) A A4 n c (m8 + 3) c4 W hlb hnn hob hnr
    have cB := fun W => right5_any (⟨h.tos, h.id, h.df, true, h.off, h.ttl, h.proto, h.src, h.dst, h.o⟩ : Hd) A n c (((m8 + 3) : Nat) : Int) W hlb hnn hob
    rw [hnr] at cB
    have c1 := CRT.out mn
    have c2' := CRT.out mx
    rw [right_f1 (room_false (by omega))] at c1
    rw [right_f1 (room_false (by omega))] at c2'
    unfold HV at cN cB
    simp only at cN cB
    unfold WrNo at cN
    have CN := Lib.hid cN
    have CB := Lib.hid cB
    have C1 := Lib.hid c1
    have C2 := Lib.hid c2'
    clear cN cB c1 c2' hlb hnr hnn hob CRT
    have hmn1 := HM1.out
    have hmx1 := HM2.out
    have hB4 : BoxH w4 w2.heap.size h A n c := hF4.blk (heap_alloc_new w2 _) (by simp)
    have hG4 := (HB2.out.fr ((Fr.refl [] w2).alloc (.cells #[.int .u8 h.tos, .int .u16 h.id, .bool h.df, .bool h.mf, .int .i64 h.off, .int .u8 h.ttl, .int .u8 h.proto, .int .u32 h.src, .int .u32 h.dst, .slice A n c] 30)) (by simp)).fr hF4 (by simp)
    have hF14 := (HFX.out.alloc (.cells #[.int .u8 h.tos, .int .u16 h.id, .bool h.df, .bool h.mf, .int .i64 h.off, .int .u8 h.ttl, .int .u8 h.proto, .int .u32 h.src, .int .u32 h.dst, .slice A n c] 30)).trans hF4
    have f9 := box_fz hB4 9
    have f3 := box_fz hB4 3
    have k9 := hB4.c9
    have k3 := hB4.c3
    have HB4 := Lib.hid hB4
    have HG4x := Lib.hid hG4
    have HF14 := Lib.hid hF14
    clear hB4 hG4 hF14 hF4 HB2
    go_upto_region 22 with (first | (refine wpList_load_row rfl 30 _ rfl (w1.heap.size) rfl _ _ _ _ HE2.out Try.underlying30 rfl (by kernel_rfl) ?_) | (at_builtin; refine wpList_app rfl _ _ _ rfl hm rfl rfl ?_))
    clear f9 f3 k9 k3
    obtain ⟨ww, hww⟩ : ∃ ww, ww = w4.setCell ⟨w2.heap.size, 3, none⟩ (.bool true) := ⟨_, rfl⟩
    have hBB : BoxH ww w2.heap.size (⟨h.tos, h.id, h.df, true, h.off, h.ttl, h.proto, h.src, h.dst, h.o⟩ : Hd) A n c := by rw [hww]; exact HB4.out.set3 true
    have hFF : Fr [w2.heap.size] w4 ww := by rw [hww]; exact (Fr.refl _ _).setCell (.inl (by simp)) _
    rw [← hww]
    clear hww
    have hEB : ww.heap[w2.heap.size]? = some (.cells #[.int .u8 h.tos, .int .u16 h.id, .bool h.df, .bool true, .int .i64 h.off, .int .u8 h.ttl, .int .u8 h.proto, .int .u32 h.src, .int .u32 h.dst, .slice A n c] 30 (0, 0)) := hBB
    have hl2 := lt_of_block HE2.out
    have HBB := Lib.hid hBB
    have HEB := Lib.hid hEB
    have HFW := Lib.hid (HF14.out.trans2 hFF (by simp; omega))
    have HBG := Lib.hid (HG4x.out.fr hFF (by simp; omega))
    clear hBB hEB hFF HB4 HG4x HF14
    go_wp2_with (refine wpList_load_row rfl 30 _ rfl (w2.heap.size) rfl _ _ _ _ HEB.out Try.underlying30 rfl (by kernel_rfl) ?_)
    refine (CN.out _).mono ?_
    rintro e wn ⟨rfl, hFn⟩
    have hb3 := HBB.out.fr hFn (by simp)
    have a0 := hb3.c0
    have a1 := hb3.c1
    have a2 := hb3.c2
    have a3 := hb3.c3
    have a4 := hb3.c4
    have a5 := hb3.c5
    have a6 := hb3.c6
    have a7 := hb3.c7
    have a8 := hb3.c8
    have a9 := hb3.c9
    have hF3 := HFW.out.trans hFn
    have hg3 := HBG.out.fr hFn (by simp)
    have HG3' := Lib.hid hg3
    have HF3 := Lib.hid hF3
    clear hb3 hg3 hF3 hFn CN HBB HBG HFW HEB
    go_wp2_with fail
    refine (CB.out _).mono ?_
    rintro e wo ⟨rfl, hFo⟩
    clear a0 a1 a2 a3 a4 a5 a6 a7 a8 a9 CB
    have hg3 := HG3'.out.fr hFo (by simp)
    have d0 := hg3.c0
    have d1 := hg3.c1
    have d2 := hg3.c2
    have d3 := hg3.c3
    have d4 := hg3.c4
    have d5 := hg3.c5
    have d6 := hg3.c6
    have d7 := hg3.c7
    have d8 := hg3.c8
    have d9 := hg3.c9
    have HG4' := Lib.hid hg3
    have HF4 := Lib.hid (HF3.out.trans hFo)
    clear hg3 hFo HG3' HF3
    go_wp2_with fail
    refine (C1.out _).mono ?_
    rintro e wp ⟨rfl, hFp⟩
    clear d0 d1 d2 d3 d4 d5 d6 d7 d8 d9 C1
    have hg3 := HG4'.out.fr hFp (by simp)
    have d0 := hg3.c0
    have d1 := hg3.c1
    have d2 := hg3.c2
    have d3 := hg3.c3
    have d4 := hg3.c4
    have d5 := hg3.c5
    have d6 := hg3.c6
    have d7 := hg3.c7
    have d8 := hg3.c8
    have d9 := hg3.c9
    have HF5 := Lib.hid (HF4.out.trans hFp)
    clear hg3 hFp HG4' HF4
    go_wp2_with fail
    refine (C2.out _).mono ?_
    rintro e wq ⟨rfl, hFq⟩
    clear d0 d1 d2 d3 d4 d5 d6 d7 d8 d9 C2
    go_wp2_with fail
    go_ret
    exact ⟨rfl, hF1.trans (HF5.out.trans hFq)⟩
end Go.Proofs.Ytjpcfphmejenoaa
