/- IpWrong. -/
import Derived.Test.YtjpcfphmejenoaaIpwm
import Derived.StillTailTactics
import Derived.BigQuiet
namespace Go.Proofs.Ytjpcfphmejenoaa
open Go.RowKit
set_option linter.unusedVariables false
set_option maxRecDepth 100000

set_option maxHeartbeats 4000000 in
theorem wrong_c (b : List Nat) (wo fa ma : Nat) (df mf : Bool) (A0 : Option Addr) (n0 c0 : Nat) (xs0 : List UInt8) (wy : Nat) (nn : Int) (w : World) (s0 : b.length = 12 ∧ (∀ x ∈ b, x < 256) ∧ wo < 256 ∧ fa < 256 ∧ ma < 256 ∧ xs0.length = n0 ∧ Rd w A0 (B8 xs0) ∧ (A0 = none → c0 = 0) ∧ n0 ≤ c0 ∧ c0 ≤ maxLen) (hwy : wy < 256) (hw : (Lit.int .i64 nn).wf = true) (hq : wy % 12 = 6 ∨ wy % 12 = 7 ∨ wy % 12 = 8) :
    Calls Try.prog 8 #[SV b wo fa ma df mf A0 n0 c0, .int .u8 wy, .int .i64 nn] w fun e w' => e = .returned (.bool true) ∧ Fr [] w w' := by
  have hnb := bounds_i64 hw
  obtain ⟨y, hy⟩ : ∃ y, y = wy % 12 := ⟨_, rfl⟩
  have z1 : (wy : Int).tmod 12 = (y : Int) := by rw [Int.tmod_eq_emod_of_nonneg (by omega)]; omega
  have z2 : (wy : Int) % 12 = (y : Int) := by omega
  have y12 : y < 12 := by omega
  have hyy : y = 6 ∨ y = 7 ∨ y = 8 := by omega
  have HYY := Lib.hid hyy
  clear hyy hq
  clear hy
  obtain ⟨mn, hmn1, hmn2⟩ : ∃ mn : Int, (if (-1 : Int) < nn then -1 else nn) = mn ∧ (mn ≤ -1 ∧ -9223372036854775808 ≤ mn) := ⟨_, rfl, by split <;> omega⟩
  obtain ⟨mx, hmx1, hmx2⟩ : ∃ mx : Int, (if nn < (65516 : Int) then 65516 else nn) = mx ∧ (65516 ≤ mx ∧ mx ≤ 9223372036854775807) := ⟨_, rfl, by split <;> omega⟩
  have HM1 := Lib.hid hmn1
  have HM2 := Lib.hid hmx1
  clear hmn1 hmx1 hw
  obtain ⟨hb12, hb, hwo, hfa, hma, hl, hrd, hnil, hnc, hcm⟩ := s0
  have hg : ∀ k, b.getD k 0 < 256 := fun k => by
    by_cases h : k < b.length
    · rw [List.getD_eq_getElem?_getD, List.getElem?_eq_getElem h]; exact hb _ (List.getElem_mem h)
    · rw [List.getD_eq_getElem?_getD, List.getElem?_eq_none (by omega)]; decide
  have cM := fun W (hW : Fr [] w W) => made5 b wo fa ma df mf A0 n0 c0 xs0 W hg hwo hfa hma hl (hrd.fr hW (by simp)) hnil hnc (by simp only [maxLen] at hcm; omega)
  unfold SV at cM ⊢
  generalize b.getD 0 0 = b0 at cM ⊢
  generalize b.getD 1 0 = b1 at cM ⊢
  generalize b.getD 2 0 = b2 at cM ⊢
  generalize b.getD 3 0 = b3 at cM ⊢
  generalize b.getD 4 0 = b4 at cM ⊢
  generalize b.getD 5 0 = b5 at cM ⊢
  generalize b.getD 6 0 = b6 at cM ⊢
  generalize b.getD 7 0 = b7 at cM ⊢
  generalize b.getD 8 0 = b8 at cM ⊢
  generalize b.getD 9 0 = b9 at cM ⊢
  generalize b.getD 10 0 = b10 at cM ⊢
  generalize b.getD 11 0 = b11 at cM ⊢
  have cA := fun W => awake5 W
  have CM := Lib.hid cM
  have CA := Lib.hid cA
  clear cM cA hl hrd hnil hg hb hb12 hnc hcm hwo hfa hma
  have hX0 : Blk (w.alloc (.cells #[.int .u8 b0, .int .u8 b1, .int .u8 b2, .int .u8 b3, .int .u8 b4, .int .u8 b5, .int .u8 b6, .int .u8 b7, .int .u8 b8, .int .u8 b9, .int .u8 b10, .int .u8 b11, .int .u8 wo, .int .u8 fa, .int .u8 ma, .bool df, .bool mf, .slice A0 n0 c0] 25)) w.heap.size #[.int .u8 b0, .int .u8 b1, .int .u8 b2, .int .u8 b3, .int .u8 b4, .int .u8 b5, .int .u8 b6, .int .u8 b7, .int .u8 b8, .int .u8 b9, .int .u8 b10, .int .u8 b11, .int .u8 wo, .int .u8 fa, .int .u8 ma, .bool df, .bool mf, .slice A0 n0 c0] 25 := blk_new w _ _ rfl
  have hF0 : Fr [] w (w.alloc (.cells #[.int .u8 b0, .int .u8 b1, .int .u8 b2, .int .u8 b3, .int .u8 b4, .int .u8 b5, .int .u8 b6, .int .u8 b7, .int .u8 b8, .int .u8 b9, .int .u8 b10, .int .u8 b11, .int .u8 wo, .int .u8 fa, .int .u8 ma, .bool df, .bool mf, .slice A0 n0 c0] 25)) := (Fr.refl _ _).alloc _
  have HX0 := Lib.hid hX0
  clear hX0
  go_enter Try.func8, Try.ntmps8
  go_wp2_with fail
  refine (CA.out _).mono ?_
  rintro e wa ⟨rfl, hFa⟩
  have hX1 := HX0.out.fr hFa (by simp)
  have HX1 := Lib.hid hX1
  replace hFa := hF0.trans hFa
  clear hX1 HX0 hF0 CA
  go_wp2_with (refine wpList_load_row rfl 25 _ rfl w.heap.size rfl _ _ _ _ HX1.out Try.underlying25 rfl (by kernel_rfl) ?_)
  refine (CM.out _ hFa).mono ?_
  rintro e w1 ⟨h, A, n, c, d, A2, m, c2, rfl, f, hd, hm80, hlo, hrdo, hniA, hnc, hrdd, hnil2, hmc2, hcm2, hF1⟩
  clear HX1 CM
  replace hF1 := hFa.trans hF1
  clear hFa
  have hLN : (wrN h d).length = 20 + n + m := by rw [wrN_length]; omega
  have fo := f.o
  have fof := f.off
  have fbo := f.b.off
  have fn := f.n
  have hn40 : n ≤ 40 ∧ n % 4 = 0 := by omega
  have hoff : 0 ≤ h.off ∧ h.off % 8 = 0 ∧ h.off ≤ 65515 := by omega
  have cW := fun W (hW : Fr [] w1 W) => write_yes h d A A2 n c m c2 W hlo (hrdo.fr hW (by simp)) hniA hd (hrdd.fr hW (by simp)) hnil2 f
  have fs : Fits h d.length := by rw [hd]; exact f
  have hg := good_wr fs []
  rw [List.append_nil] at hg
  obtain ⟨hg1, hg2, hg3, hg4⟩ := hg
  obtain ⟨N, hN⟩ : ∃ N, N = 20 + n + m := ⟨_, rfl⟩
  obtain ⟨S, hS⟩ : ∃ S, S = 20 + n := ⟨_, rfl⟩
  rw [hlo, ← hS] at hg3
  rw [hlo, hd, ← hN] at hg4
  rw [← hN] at hLN
  have hNb : N ≤ 140 := by omega
  have hN20 : S ≤ N := by omega
  have hS20 : 20 ≤ S := by omega
  have hS60 : S ≤ 60 := by omega
  have hSm : N = S + m := by omega
  have HSM := Lib.hid hSm
  have hS1 : (20 : Int) + (n : Int) = (S : Int) := by omega
  have cRt := fun z W => right5_any h A n c z W hlo (by omega) f.b.off
  unfold WrYes at cW
  rw [hLN] at cW
  generalize wrN h d = L at cW hLN hg1 hg2 hg3 hg4
  unfold HV at cW cRt ⊢
  have CW := Lib.hid cW
  have CRT := Lib.hid cRt
  have HG1 := Lib.hid hg1
  have HG3 := Lib.hid hg3
  have HG4 := Lib.hid hg4
  have HLO := Lib.hid hlo
  have HLN := Lib.hid hLN
  have HD := Lib.hid hd
  have HRO := Lib.hid hrdo
  have HRD := Lib.hid hrdd
  have HN2 := Lib.hid hnil2
  have HNA := Lib.hid hniA
  clear cW cRt hg1 hg2 hg3 hg4 hlo hd hLN hrdo hrdd hniA hnil2 f fs hN hS fo hSm fof fn fbo
  have hFx : Fr [] w1 (w1.alloc (.cells #[.int .u8 h.tos, .int .u16 h.id, .bool h.df, .bool h.mf, .int .i64 h.off, .int .u8 h.ttl, .int .u8 h.proto, .int .u32 h.src, .int .u32 h.dst, .slice A n c] 30)) := (Fr.refl _ _).alloc _
  have hBx : BoxH (w1.alloc (.cells #[.int .u8 h.tos, .int .u16 h.id, .bool h.df, .bool h.mf, .int .i64 h.off, .int .u8 h.ttl, .int .u8 h.proto, .int .u32 h.src, .int .u32 h.dst, .slice A n c] 30)) w1.heap.size h A n c := heap_alloc_new w1 _
  have HBX := Lib.hid hBx
  clear hBx
  go_wp2_with fail
  refine (CW.out _ hFx).mono ?_
  rintro e w2 ⟨g, cb, rfl, o2, hF2⟩
  replace hFx := hFx.trans hF2
  have hB2 := HBX.out.fr hF2 (by simp)
  have s9 := hB2.c9
  have hE2 : w2.heap[w1.heap.size]? = some (.cells #[.int .u8 h.tos, .int .u16 h.id, .bool h.df, .bool h.mf, .int .i64 h.off, .int .u8 h.ttl, .int .u8 h.proto, .int .u32 h.src, .int .u32 h.dst, .slice A n c] 30 (0, 0)) := hB2
  have HB2 := Lib.hid hB2
  have HE2 := Lib.hid hE2
  have hcb := own_cc o2
  have hlg := (o2.lt g rfl)
  have hgb : w1.heap.size < g ∧ g < w2.heap.size := by simp at hlg; omega
  have O2 := Lib.hid o2
  have HFX := Lib.hid hFx
  clear hB2 hF2 HBX CW hlg o2 hFx hE2
  rcases HYY.out with hyy | hyy | hyy
  · clear HYY
    have hy6 : y = 6 := hyy
    have y0 : ((y : Int) == 0) = false := by rw [hyy]; rfl
    have y1 : ((y : Int) == 1) = false := by rw [hyy]; rfl
    have y2 : ((y : Int) == 2) = false := by rw [hyy]; rfl
    have y3 : ((y : Int) == 3) = false := by rw [hyy]; rfl
    have y4 : ((y : Int) == 4) = false := by rw [hyy]; rfl
    have y5 : ((y : Int) == 5) = false := by rw [hyy]; rfl
    have ylt : ((y : Int) == 6) = true := by rw [hyy]; rfl
    have y7 : ((y : Int) == 7) = false := by rw [hyy]; rfl
    have y8 : ((y : Int) == 8) = false := by rw [hyy]; rfl
    have y9 : ((y : Int) == 9) = false := by rw [hyy]; rfl
    have y10 : ((y : Int) == 10) = false := by rw [hyy]; rfl
    have y11 : ((y : Int) == 11) = false := by rw [hyy]; rfl
    have ylt : ¬ (y : Int) < 6 := by omega
    have yltn : ¬ y < 6 := by omega
    clear hyy hy6
    clear CRT HNA HRO HD HRD HN2 HB2
    obtain ⟨p, hp⟩ : ∃ p : Nat, (nn % ((20 : Nat) : Int)).toNat = p := ⟨_, rfl⟩
    have hpk : p < 20 := by
      have h1 := Int.emod_nonneg nn (show ((20 : Nat) : Int) ≠ 0 by omega)
      have h2 := Int.emod_lt_of_pos nn (show (0 : Int) < ((20 : Nat) : Int) by omega)
      omega
    have cP : ∀ W, Calls Try.prog 20 #[.int .i64 nn, .int .i64 (20)] W fun e w' => e = .returned (.int .i64 (p : Nat)) ∧ W = w' := fun W => by
      have := pick_any nn 20 W (by omega) (by omega) hnb
      rw [hp] at this
      exact this
    have CP := Lib.hid cP
    clear cP hp
    have hkc : p ≤ cb := by omega
    have bb : (0 : Int) ≤ (p : Int) ∧ (p : Int) ≤ (cb : Int) := by omega
    have bb2 : (p : Int) ≤ (cb : Int) := by omega
    have hxl : (L.take p).length = p := by rw [List.length_take, HLN.out]; omega
    have rdX : Rd w2 (some ⟨g, 0, none⟩) (B8 (L.take p)) := by rw [← B8_take]; exact (Rd.own O2.out).take p
    have hz : faultN (L.take p) = 50 := wrong_short (by omega)
    have HFX2 := HFX
    have cN := read_no (some ⟨g, 0, none⟩) p cb (L.take p) w2 hxl rdX hkc (by omega) (by rw [hz]; decide)
    unfold RdNo at cN
    rw [hz] at cN
    have cH := fun W (hW : Fr [] w2 W) => hop_no (some ⟨g, 0, none⟩) p cb (L.take p) W hxl (rdX.fr hW (by simp)) hkc (by omega) (by rw [hz]; decide)
    unfold NoP at cH
    rw [hz] at cH
    have cT := fun W (hW : Fr [] w2 W) => turn_no (some ⟨g, 0, none⟩) p cb (L.take p) W hxl (rdX.fr hW (by simp)) hkc (by omega) (by rw [hz]; decide)
    unfold NoP at cT
    rw [hz] at cT
    have cS := fun W => same5 Hd0 none none 0 0 0 0 W rfl rfl (Rd.nil _ _) (Rd.nil _ _) (by decide)
    unfold HV Hd0 at cS
    simp only at cS
    have CN := Lib.hid cN
    have CH := Lib.hid cH
    have CT := Lib.hid cT
    have CS := Lib.hid cS
    clear cN cH cT cS hxl rdX hz
    go_wp2_with fail
    refine (CP.out _).mono ?_
    rintro e w' ⟨rfl, rfl⟩
    clear CP
    go_wp2_with fail
    refine CN.out.mono ?_
    rintro e w6 ⟨rfl, hF6⟩
    have hBz : BoxH (w6.alloc (.cells #[.int .u8 0, .int .u16 0, .bool false, .bool false, .int .i64 0, .int .u8 0, .int .u8 0, .int .u32 0, .int .u32 0, .slice none 0 0] 30)) w6.heap.size Hd0 none 0 0 := heap_alloc_new w6 _
    have hF7 : Fr [] w2 (w6.alloc (.cells #[.int .u8 0, .int .u16 0, .bool false, .bool false, .int .i64 0, .int .u8 0, .int .u8 0, .int .u32 0, .int .u32 0, .slice none 0 0] 30)) := hF6.alloc _
    have HBZ := Lib.hid hBz
    have HF7 := Lib.hid hF7
    clear hBz hF6 CN
    go_wp2_with fail
    refine (CH.out _ hF7).mono ?_
    rintro e w8 ⟨rfl, hF8⟩
    have hF9 := HF7.out.trans hF8
    have HBZ8 := Lib.hid (HBZ.out.fr hF8 (by simp))
    clear hF7 CH HBZ HF7 hF8
    go_wp2_with fail
    refine (CT.out _ hF9).mono ?_
    rintro e w9 ⟨rfl, hF10⟩
    have hb := HBZ8.out.fr hF10 (by simp)
    have a0 := hb.c0
    have a1 := hb.c1
    have a2 := hb.c2
    have a3 := hb.c3
    have a4 := hb.c4
    have a5 := hb.c5
    have a6 := hb.c6
    have a7 := hb.c7
    have a8 := hb.c8
    have a9 := hb.c9
    unfold Hd0 at a0 a1 a2 a3 a4 a5 a6 a7 a8
    simp only at a0 a1 a2 a3 a4 a5 a6 a7 a8
    have HF11 := Lib.hid (HFX2.out.trans (hF9.trans hF10))
    clear hb hF9 hF10 CT HBZ8 HFX2
    go_wp2_with fail
    refine (CS.out _).mono ?_
    rintro e w10 ⟨rfl, hF12⟩
    clear CS a0 a1 a2 a3 a4 a5 a6 a7 a8 a9
    go_wp2_with fail
    go_ret
    exact ⟨rfl, hF1.trans (HF11.out.trans hF12)⟩
  · clear HYY
    have hy7 : y = 7 := hyy
    have y0 : ((y : Int) == 0) = false := by rw [hyy]; rfl
    have y1 : ((y : Int) == 1) = false := by rw [hyy]; rfl
    have y2 : ((y : Int) == 2) = false := by rw [hyy]; rfl
    have y3 : ((y : Int) == 3) = false := by rw [hyy]; rfl
    have y4 : ((y : Int) == 4) = false := by rw [hyy]; rfl
    have y5 : ((y : Int) == 5) = false := by rw [hyy]; rfl
    have ylt : ((y : Int) == 6) = false := by rw [hyy]; rfl
    have y7 : ((y : Int) == 7) = true := by rw [hyy]; rfl
    have y8 : ((y : Int) == 8) = false := by rw [hyy]; rfl
    have y9 : ((y : Int) == 9) = false := by rw [hyy]; rfl
    have y10 : ((y : Int) == 10) = false := by rw [hyy]; rfl
    have y11 : ((y : Int) == 11) = false := by rw [hyy]; rfl
    have ylt : ¬ (y : Int) < 6 := by omega
    have yltn : ¬ y < 6 := by omega
    clear hyy hy7
    clear CRT HNA HRO HD HRD HN2 HB2
    obtain ⟨p, hp⟩ : ∃ p : Nat, (nn % ((4 : Nat) : Int)).toNat = p := ⟨_, rfl⟩
    have hpk : p < 4 := by
      have h1 := Int.emod_nonneg nn (show ((4 : Nat) : Int) ≠ 0 by omega)
      have h2 := Int.emod_lt_of_pos nn (show (0 : Int) < ((4 : Nat) : Int) by omega)
      omega
    have cP : ∀ W, Calls Try.prog 20 #[.int .i64 nn, .int .i64 (4)] W fun e w' => e = .returned (.int .i64 (p : Nat)) ∧ W = w' := fun W => by
      have := pick_any nn 4 W (by omega) (by omega) hnb
      rw [hp] at this
      exact this
    have CP := Lib.hid cP
    clear cP hp
    obtain ⟨x, hx, ex⟩ := bt_get (xs := L) (k := 0) (by rw [HLN.out]; omega)
    have hfl := flip8 (bt L 0) (bt_lt _ _) (4 + p) (by omega)
    obtain ⟨Y, hY⟩ : ∃ Y, Y = bt L 0 ^^^ 2 ^ (4 + p) := ⟨_, rfl⟩
    have hYl : Y < 256 := by rw [hY]; exact hfl.1
    have hz : faultN (L.set 0 (UInt8.ofNat Y)) = 51 := by rw [hY]; exact bit_version HG1.out (by omega) (by omega)
    have q0 : w2.cell? ⟨g, 0, none⟩ = some (.int .u8 (bt L 0 : Nat)) := own_cell O2.out (j := 0) (by rw [B8_get, hx, ← ex]; rfl)
    have sh8 : ∀ p < 4, 2 ^ (4 + p) < 256 ∧ (16 : Int) * 2 ^ p = ((2 ^ (4 + p) : Nat) : Int) := by decide
    obtain ⟨P, hP⟩ : ∃ P : Nat, P = 2 ^ (4 + p) := ⟨_, rfl⟩
    have hP8 : P < 256 := by rw [hP]; exact (sh8 p hpk).1
    have xo : bits .xor .u8 ((bt L 0 : Nat) : Int) (P : Int) = (Y : Int) := by rw [xor8 _ _ (bt_lt _ _) hP8, hY, hP]
    have ws : (16 : Int) * 2 ^ p = (P : Int) := by rw [(sh8 p hpk).2, hP]
    have ww : IntKind.u8.wrap (P : Int) = (P : Int) := u8_in (by omega) (by omega)
    have wpp : IntKind.i64.wrap (p : Int) = (p : Int) := IntWalk.i64_in _ (by omega)
    clear hx ex hfl hY hP sh8
    generalize hX : bt L 0 = X0 at q0 xo
    clear hX
    have f0 := own_fz O2.out 0
    have i0 : (0 : Int) < (N : Int) := by omega
    have i0n : 0 < N := by omega
    have HZ := Lib.hid hz
    clear hz
    go_wp2_with fail
    refine wp_region_still_tail 9 (by kernel_rfl) (by kernel_rfl) ?_
    have e3 : ({ w2 with drawn := w2.drawn + 1 } : World) = w2.drew := rfl
    rw [e3]
    clear e3
    have hFd : Fr [] w2 w2.drew := (Fr.refl [] w2).drew
    have OD := Lib.hid (hFd.own O2.out (by simp))
    have HFD := Lib.hid (HFX.out.trans hFd)
    replace q0 := hFd.cell q0 (by simp)
    replace f0 := own_fz OD.out 0
    clear hFd O2 HFX HE2 s9
    generalize w2.drew = wd at OD HFD q0 f0 ⊢
    simp only [List.take_succ_cons, List.take_zero, List.drop_succ_cons, List.drop_zero]
    repeat (first | still_step | still_call (((CP.out _).mono fun _ _ h => ⟨h.1, h.2.symm⟩)))
    refine wpStill_nil ?_
    clear CP
    go_upto_region 41 with (fail)
    obtain ⟨wx, hwx⟩ : ∃ wx, wx = wd.setCell ⟨g, 0, none⟩ (.int .u8 (Y : Nat)) := ⟨_, rfl⟩
    have ox := own_set OD.out 0 (.int .u8 (Y : Nat))
    rw [B8_set L 0 (UInt8.ofNat Y) (by rw [u8_nat hYl]), ← hwx] at ox
    have hFx : Fr [] w1 wx := by rw [hwx]; exact HFD.out.setCell (p := ⟨g, 0, none⟩) (.inr (by show w1.heap.size ≤ g; omega)) _
    have HFX2 := Lib.hid hFx
    have OX := Lib.hid ox
    rw [← hwx]
    clear ox hFx hwx
    have hkc : N ≤ cb := hcb.1
    have hxl : (L.set 0 (UInt8.ofNat Y)).length = N := by rw [List.length_set]; exact HLN.out
    have rdX : Rd wx (some ⟨g, 0, none⟩) (B8 (L.set 0 (UInt8.ofNat Y))) := Rd.own OX.out
    have hz := HZ.out
    clear HZ q0 f0 xo
    have cN := read_no (some ⟨g, 0, none⟩) N cb (L.set 0 (UInt8.ofNat Y)) wx hxl rdX hkc (by omega) (by rw [hz]; decide)
    unfold RdNo at cN
    rw [hz] at cN
    have cH := fun W (hW : Fr [] wx W) => hop_no (some ⟨g, 0, none⟩) N cb (L.set 0 (UInt8.ofNat Y)) W hxl (rdX.fr hW (by simp)) hkc (by omega) (by rw [hz]; decide)
    unfold NoP at cH
    rw [hz] at cH
    have cT := fun W (hW : Fr [] wx W) => turn_no (some ⟨g, 0, none⟩) N cb (L.set 0 (UInt8.ofNat Y)) W hxl (rdX.fr hW (by simp)) hkc (by omega) (by rw [hz]; decide)
    unfold NoP at cT
    rw [hz] at cT
    have cS := fun W => same5 Hd0 none none 0 0 0 0 W rfl rfl (Rd.nil _ _) (Rd.nil _ _) (by decide)
    unfold HV Hd0 at cS
    simp only at cS
    have CN := Lib.hid cN
    have CH := Lib.hid cH
    have CT := Lib.hid cT
    have CS := Lib.hid cS
    clear cN cH cT cS hxl rdX hz
    go_wp2_with fail
    refine CN.out.mono ?_
    rintro e w6 ⟨rfl, hF6⟩
    have hBz : BoxH (w6.alloc (.cells #[.int .u8 0, .int .u16 0, .bool false, .bool false, .int .i64 0, .int .u8 0, .int .u8 0, .int .u32 0, .int .u32 0, .slice none 0 0] 30)) w6.heap.size Hd0 none 0 0 := heap_alloc_new w6 _
    have hF7 : Fr [] wx (w6.alloc (.cells #[.int .u8 0, .int .u16 0, .bool false, .bool false, .int .i64 0, .int .u8 0, .int .u8 0, .int .u32 0, .int .u32 0, .slice none 0 0] 30)) := hF6.alloc _
    have HBZ := Lib.hid hBz
    have HF7 := Lib.hid hF7
    clear hBz hF6 CN
    go_wp2_with fail
    refine (CH.out _ hF7).mono ?_
    rintro e w8 ⟨rfl, hF8⟩
    have hF9 := HF7.out.trans hF8
    have HBZ8 := Lib.hid (HBZ.out.fr hF8 (by simp))
    clear hF7 CH HBZ HF7 hF8
    go_wp2_with fail
    refine (CT.out _ hF9).mono ?_
    rintro e w9 ⟨rfl, hF10⟩
    have hb := HBZ8.out.fr hF10 (by simp)
    have a0 := hb.c0
    have a1 := hb.c1
    have a2 := hb.c2
    have a3 := hb.c3
    have a4 := hb.c4
    have a5 := hb.c5
    have a6 := hb.c6
    have a7 := hb.c7
    have a8 := hb.c8
    have a9 := hb.c9
    unfold Hd0 at a0 a1 a2 a3 a4 a5 a6 a7 a8
    simp only at a0 a1 a2 a3 a4 a5 a6 a7 a8
    have HF11 := Lib.hid (HFX2.out.trans (hF9.trans hF10))
    clear hb hF9 hF10 CT HBZ8 HFX2
    go_wp2_with fail
    refine (CS.out _).mono ?_
    rintro e w10 ⟨rfl, hF12⟩
    clear CS a0 a1 a2 a3 a4 a5 a6 a7 a8 a9
    go_wp2_with fail
    go_ret
    exact ⟨rfl, hF1.trans (HF11.out.trans hF12)⟩
  · clear HYY
    have hy8 : y = 8 := hyy
    have y0 : ((y : Int) == 0) = false := by rw [hyy]; rfl
    have y1 : ((y : Int) == 1) = false := by rw [hyy]; rfl
    have y2 : ((y : Int) == 2) = false := by rw [hyy]; rfl
    have y3 : ((y : Int) == 3) = false := by rw [hyy]; rfl
    have y4 : ((y : Int) == 4) = false := by rw [hyy]; rfl
    have y5 : ((y : Int) == 5) = false := by rw [hyy]; rfl
    have ylt : ((y : Int) == 6) = false := by rw [hyy]; rfl
    have y7 : ((y : Int) == 7) = false := by rw [hyy]; rfl
    have y8 : ((y : Int) == 8) = true := by rw [hyy]; rfl
    have y9 : ((y : Int) == 9) = false := by rw [hyy]; rfl
    have y10 : ((y : Int) == 10) = false := by rw [hyy]; rfl
    have y11 : ((y : Int) == 11) = false := by rw [hyy]; rfl
    have ylt : ¬ (y : Int) < 6 := by omega
    have yltn : ¬ y < 6 := by omega
    clear hyy hy8
    clear CRT HNA HRO HD HRD HN2 HB2
    obtain ⟨p, hp⟩ : ∃ p : Nat, (nn % ((5 : Nat) : Int)).toNat = p := ⟨_, rfl⟩
    have hpk : p < 5 := by
      have h1 := Int.emod_nonneg nn (show ((5 : Nat) : Int) ≠ 0 by omega)
      have h2 := Int.emod_lt_of_pos nn (show (0 : Int) < ((5 : Nat) : Int) by omega)
      omega
    have cP : ∀ W, Calls Try.prog 20 #[.int .i64 nn, .int .i64 (5)] W fun e w' => e = .returned (.int .i64 (p : Nat)) ∧ W = w' := fun W => by
      have := pick_any nn 5 W (by omega) (by omega) hnb
      rw [hp] at this
      exact this
    have CP := Lib.hid cP
    clear cP hp
    have wp8 : IntKind.u8.wrap (p : Int) = (p : Int) := u8_in (by omega) (by omega)
    obtain ⟨Y, hY⟩ : ∃ Y, Y = 64 + p := ⟨_, rfl⟩
    have xo : bits BinOp.or IntKind.u8 64 (p : Int) = (Y : Int) := by rw [or_64 p hpk, hY]
    have hYl : Y < 256 := by omega
    have hz : faultN (L.set 0 (UInt8.ofNat Y)) = 52 := by rw [hY]; exact wrong_words HG1.out hpk
    obtain ⟨x, hx, ex⟩ := bt_get (xs := L) (k := 0) (by rw [HLN.out]; omega)
    have q0 : w2.cell? ⟨g, 0, none⟩ = some (.int .u8 (bt L 0 : Nat)) := own_cell O2.out (j := 0) (by rw [B8_get, hx, ← ex]; rfl)
    clear hx ex hY
    have f0 := own_fz O2.out 0
    have i0 : (0 : Int) < (N : Int) := by omega
    have i0n : 0 < N := by omega
    have HZ := Lib.hid hz
    clear hz
    go_wp2_with fail
    refine (CP.out _).mono ?_
    rintro e w' ⟨rfl, rfl⟩
    clear CP
    go_upto_region 41 with (fail)
    obtain ⟨wx, hwx⟩ : ∃ wx, wx = w2.setCell ⟨g, 0, none⟩ (.int .u8 (Y : Nat)) := ⟨_, rfl⟩
    have ox := own_set O2.out 0 (.int .u8 (Y : Nat))
    rw [B8_set L 0 (UInt8.ofNat Y) (by rw [u8_nat hYl]), ← hwx] at ox
    have hFx : Fr [] w1 wx := by rw [hwx]; exact HFX.out.setCell (p := ⟨g, 0, none⟩) (.inr (by show w1.heap.size ≤ g; omega)) _
    have HFX2 := Lib.hid hFx
    have OX := Lib.hid ox
    rw [← hwx]
    clear ox hFx hwx
    have hkc : N ≤ cb := hcb.1
    have hxl : (L.set 0 (UInt8.ofNat Y)).length = N := by rw [List.length_set]; exact HLN.out
    have rdX : Rd wx (some ⟨g, 0, none⟩) (B8 (L.set 0 (UInt8.ofNat Y))) := Rd.own OX.out
    have hz := HZ.out
    clear HZ q0 f0 xo
    have cN := read_no (some ⟨g, 0, none⟩) N cb (L.set 0 (UInt8.ofNat Y)) wx hxl rdX hkc (by omega) (by rw [hz]; decide)
    unfold RdNo at cN
    rw [hz] at cN
    have cH := fun W (hW : Fr [] wx W) => hop_no (some ⟨g, 0, none⟩) N cb (L.set 0 (UInt8.ofNat Y)) W hxl (rdX.fr hW (by simp)) hkc (by omega) (by rw [hz]; decide)
    unfold NoP at cH
    rw [hz] at cH
    have cT := fun W (hW : Fr [] wx W) => turn_no (some ⟨g, 0, none⟩) N cb (L.set 0 (UInt8.ofNat Y)) W hxl (rdX.fr hW (by simp)) hkc (by omega) (by rw [hz]; decide)
    unfold NoP at cT
    rw [hz] at cT
    have cS := fun W => same5 Hd0 none none 0 0 0 0 W rfl rfl (Rd.nil _ _) (Rd.nil _ _) (by decide)
    unfold HV Hd0 at cS
    simp only at cS
    have CN := Lib.hid cN
    have CH := Lib.hid cH
    have CT := Lib.hid cT
    have CS := Lib.hid cS
    clear cN cH cT cS hxl rdX hz
    go_wp2_with fail
    refine CN.out.mono ?_
    rintro e w6 ⟨rfl, hF6⟩
    have hBz : BoxH (w6.alloc (.cells #[.int .u8 0, .int .u16 0, .bool false, .bool false, .int .i64 0, .int .u8 0, .int .u8 0, .int .u32 0, .int .u32 0, .slice none 0 0] 30)) w6.heap.size Hd0 none 0 0 := heap_alloc_new w6 _
    have hF7 : Fr [] wx (w6.alloc (.cells #[.int .u8 0, .int .u16 0, .bool false, .bool false, .int .i64 0, .int .u8 0, .int .u8 0, .int .u32 0, .int .u32 0, .slice none 0 0] 30)) := hF6.alloc _
    have HBZ := Lib.hid hBz
    have HF7 := Lib.hid hF7
    clear hBz hF6 CN
    go_wp2_with fail
    refine (CH.out _ hF7).mono ?_
    rintro e w8 ⟨rfl, hF8⟩
    have hF9 := HF7.out.trans hF8
    have HBZ8 := Lib.hid (HBZ.out.fr hF8 (by simp))
    clear hF7 CH HBZ HF7 hF8
    go_wp2_with fail
    refine (CT.out _ hF9).mono ?_
    rintro e w9 ⟨rfl, hF10⟩
    have hb := HBZ8.out.fr hF10 (by simp)
    have a0 := hb.c0
    have a1 := hb.c1
    have a2 := hb.c2
    have a3 := hb.c3
    have a4 := hb.c4
    have a5 := hb.c5
    have a6 := hb.c6
    have a7 := hb.c7
    have a8 := hb.c8
    have a9 := hb.c9
    unfold Hd0 at a0 a1 a2 a3 a4 a5 a6 a7 a8
    simp only at a0 a1 a2 a3 a4 a5 a6 a7 a8
    have HF11 := Lib.hid (HFX2.out.trans (hF9.trans hF10))
    clear hb hF9 hF10 CT HBZ8 HFX2
    go_wp2_with fail
    refine (CS.out _).mono ?_
    rintro e w10 ⟨rfl, hF12⟩
    clear CS a0 a1 a2 a3 a4 a5 a6 a7 a8 a9
    go_wp2_with fail
    go_ret
    exact ⟨rfl, hF1.trans (HF11.out.trans hF12)⟩
end Go.Proofs.Ytjpcfphmejenoaa
