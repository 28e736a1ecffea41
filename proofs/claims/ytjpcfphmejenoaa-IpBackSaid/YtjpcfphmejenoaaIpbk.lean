/- IpBack. -/
import Derived.Test.YtjpcfphmejenoaaIpbm
import Derived.StillTailTactics
namespace Go.Proofs.Ytjpcfphmejenoaa
open Go.RowKit
set_option linter.unusedVariables false
set_option maxRecDepth 100000

set_option maxHeartbeats 4000000 in
theorem back_any (b : List Nat) (wo fa ma : Nat) (df mf : Bool) (A0 : Option Addr) (n0 c0 : Nat) (xs0 : List UInt8) (B1 : Option Addr) (n1 c1 : Nat) (ys : List UInt8) (w : World) (s0 : b.length = 12 ∧ (∀ x ∈ b, x < 256) ∧ wo < 256 ∧ fa < 256 ∧ ma < 256 ∧ xs0.length = n0 ∧ Rd w A0 (B8 xs0) ∧ (A0 = none → c0 = 0) ∧ n0 ≤ c0 ∧ c0 ≤ maxLen) (s1 : ys.length = n1 ∧ Rd w B1 (B8 ys) ∧ (B1 = none → c1 = 0) ∧ n1 ≤ c1 ∧ c1 ≤ maxLen) :
    Calls Try.prog 3 #[SV b wo fa ma df mf A0 n0 c0, .slice B1 n1 c1] w fun e w' => e = .returned (.bool true) ∧ Fr [] w w' := by
  obtain ⟨hyl, hyr, hyn, hyc, hycm⟩ := s1
  obtain ⟨q, hq⟩ : ∃ q, (n1 ≤ 50 ∧ q = n1) ∨ (¬ n1 ≤ 50 ∧ q = 50) := by
    by_cases h : n1 ≤ 50
    · exact ⟨n1, .inl ⟨h, rfl⟩⟩
    · exact ⟨50, .inr ⟨h, rfl⟩⟩
  have hmi := min_is (n := n1) (m := q) (M := 50) (k := 50) rfl hq
  have hqc : q ≤ c1 ∧ q ≤ 50 ∧ q ≤ n1 := by omega
  have hyl2 : (ys.take q).length = q := by rw [List.length_take]; omega
  have hyr2 : Rd w B1 (B8 (ys.take q)) := by rw [← B8_take]; exact hyr.take q
  generalize ys.take q = Z at hyl2 hyr2
  have HYL := Lib.hid hyl2
  have HYR := Lib.hid hyr2
  have HYN := Lib.hid hyn
  clear hyl hyr hyn hq hyl2 hyr2
  unfold maxLen at hycm
  obtain ⟨hb12, hb, hwo, hfa, hma, hl, hrd, hnil, hnc, hcm⟩ := s0
  have hg : ∀ k, b.getD k 0 < 256 := fun k => by
    by_cases h : k < b.length
    · rw [List.getD_eq_getElem?_getD, List.getElem?_eq_getElem h]; exact hb _ (List.getElem_mem h)
    · rw [List.getD_eq_getElem?_getD, List.getElem?_eq_none (by omega)]; decide
  have cM := fun W (hW : Fr [] w W) => made5 b wo fa ma df mf A0 n0 c0 xs0 W hg hwo hfa hma hl (hrd.fr hW (by simp)) hnil hnc (by simp only [maxLen] at hcm; omega)
  unfold SV at cM ⊢
  generalize b.getD 0 0 = b0 at cM ⊢
  generalize b.getD 1 0 = b1 at cM ⊢
  generalize b.getD 2 0 = b2 at cM ⊢
  generalize b.getD 3 0 = b3 at cM ⊢
  generalize b.getD 4 0 = b4 at cM ⊢
  generalize b.getD 5 0 = b5 at cM ⊢
  generalize b.getD 6 0 = b6 at cM ⊢
  generalize b.getD 7 0 = b7 at cM ⊢
  generalize b.getD 8 0 = b8 at cM ⊢
  generalize b.getD 9 0 = b9 at cM ⊢
  generalize b.getD 10 0 = b10 at cM ⊢
  generalize b.getD 11 0 = b11 at cM ⊢
  have cA := fun W => awake5 W
  have CM := Lib.hid cM
  have CA := Lib.hid cA
  clear cM cA hl hrd hnil hg hb hb12 hnc hcm hwo hfa hma
  have hX0 : Blk (w.alloc (.cells #[.int .u8 b0, .int .u8 b1, .int .u8 b2, .int .u8 b3, .int .u8 b4, .int .u8 b5, .int .u8 b6, .int .u8 b7, .int .u8 b8, .int .u8 b9, .int .u8 b10, .int .u8 b11, .int .u8 wo, .int .u8 fa, .int .u8 ma, .bool df, .bool mf, .slice A0 n0 c0] 25)) w.heap.size #[.int .u8 b0, .int .u8 b1, .int .u8 b2, .int .u8 b3, .int .u8 b4, .int .u8 b5, .int .u8 b6, .int .u8 b7, .int .u8 b8, .int .u8 b9, .int .u8 b10, .int .u8 b11, .int .u8 wo, .int .u8 fa, .int .u8 ma, .bool df, .bool mf, .slice A0 n0 c0] 25 := blk_new w _ _ rfl
  have hF0 : Fr [] w (w.alloc (.cells #[.int .u8 b0, .int .u8 b1, .int .u8 b2, .int .u8 b3, .int .u8 b4, .int .u8 b5, .int .u8 b6, .int .u8 b7, .int .u8 b8, .int .u8 b9, .int .u8 b10, .int .u8 b11, .int .u8 wo, .int .u8 fa, .int .u8 ma, .bool df, .bool mf, .slice A0 n0 c0] 25)) := (Fr.refl _ _).alloc _
  have HX0 := Lib.hid hX0
  clear hX0
  go_enter Try.func3, Try.ntmps3
  go_wp2_with fail
  refine (CA.out _).mono ?_
  rintro e wa ⟨rfl, hFa⟩
  have hX1 := HX0.out.fr hFa (by simp)
  have HX1 := Lib.hid hX1
  replace hFa := hF0.trans hFa
  clear hX1 HX0 hF0 CA
  go_wp2_with (refine wpList_load_row rfl 25 _ rfl w.heap.size rfl _ _ _ _ HX1.out Try.underlying25 rfl (by kernel_rfl) ?_)
  refine (CM.out _ hFa).mono ?_
  rintro e w1 ⟨h, A, n, c, d, A2, m, c2, rfl, f, hd, hm80, hlo, hrdo, hniA, hnc, hrdd, hnil2, hmc2, hcm2, hF1⟩
  clear HX1 CM
  replace hF1 := hFa.trans hF1
  clear hFa
  have hLN : (wrN h d).length = 20 + n + m := by rw [wrN_length]; omega
  have fo := f.o
  have hn40 : n ≤ 40 := by omega
  have cW := fun W (hW : Fr [] w1 W) => write_yes h d A A2 n c m c2 W hlo (hrdo.fr hW (by simp)) hniA hd (hrdd.fr hW (by simp)) hnil2 f
  have fs : Fits h d.length := by rw [hd]; exact f
  have hg0 := (good_wr fs []).1.sum
  have hg := good_wr fs Z
  obtain ⟨N, hN⟩ : ∃ N, N = 20 + n + m := ⟨_, rfl⟩
  obtain ⟨S, hS⟩ : ∃ S, S = 20 + n := ⟨_, rfl⟩
  rw [List.append_nil, show szN (wrN h d) = S by have := (good_wr fs []).2.2.1; rw [List.append_nil] at this; rw [this, hlo, hS]] at hg0
  have hSn : S - 20 = n := by omega
  have cY := fun A' c' W (hr : Rd W A' (B8 (wrN h d ++ Z))) (hc : N + q ≤ c') => read_yes A' (N + q) c' (wrN h d ++ Z) W (by rw [List.length_append, hLN, HYL.out, hN]) hr hc (by omega) hg.1
  unfold RdYes at cY
  rw [hg.2.1, hg.2.2.1, hg.2.2.2, hlo, hd, ← hS, hSn, show S + m = N by omega] at cY
  have hdr := wr_drop h d
  rw [hlo, ← hS] at hdr
  rw [← hN] at hLN
  have cRt := fun W => right5_any h A n c (m : Int) W hlo (by omega) f.b.off
  rw [f.right] at cRt
  have hNb : N ≤ 140 := by omega
  have hN20 : S ≤ N := by omega
  have hS20 : 20 ≤ S := by omega
  have hS1 : (20 : Int) + (n : Int) = (S : Int) := by omega
  have hS2 : (S : Int) + (m : Int) = (N : Int) := by omega
  have hNm : N - S = m := by omega
  unfold WrYes at cW
  rw [hLN] at cW
  generalize wrN h d = L at cW cY hLN hg0 hdr
  have cC := fun A' c' W (hr : Rd W A' (B8 (L.take S))) => right_any A' S c' (L.take S) W (by rw [List.length_take]; omega) hr (by omega)
  rw [hg0, decide_eq_true rfl] at cC
  unfold HV at cW cY cRt ⊢
  have CW := Lib.hid cW
  have CY := Lib.hid cY
  have CRT := Lib.hid cRt
  have CC := Lib.hid cC
  have HLO := Lib.hid hlo
  have HD := Lib.hid hd
  have HLN := Lib.hid hLN
  have HDR := Lib.hid hdr
  have HRO := Lib.hid hrdo
  have HRD := Lib.hid hrdd
  have HNM := Lib.hid hNm
  clear cW cY cRt cC hlo hd hLN hdr hrdo hrdd hniA hnil2 f fs hg hg0 hSn hN hS hNm fo
  have hFx : Fr [] w1 (w1.alloc (.cells #[.int .u8 h.tos, .int .u16 h.id, .bool h.df, .bool h.mf, .int .i64 h.off, .int .u8 h.ttl, .int .u8 h.proto, .int .u32 h.src, .int .u32 h.dst, .slice A n c] 30)) := (Fr.refl _ _).alloc _
  have hBx : BoxH (w1.alloc (.cells #[.int .u8 h.tos, .int .u16 h.id, .bool h.df, .bool h.mf, .int .i64 h.off, .int .u8 h.ttl, .int .u8 h.proto, .int .u32 h.src, .int .u32 h.dst, .slice A n c] 30)) w1.heap.size h A n c := heap_alloc_new w1 _
  have HBX := Lib.hid hBx
  clear hBx
  go_wp2_with fail
  refine (CW.out _ hFx).mono ?_
  rintro e w2 ⟨g, cb, rfl, o2, hF2⟩
  replace hFx := hFx.trans hF2
  have hB2 := HBX.out.fr hF2 (by simp)
  have HB2 := Lib.hid hB2
  have hcb := own_cc o2
  have O2 := Lib.hid o2
  have HFX := Lib.hid hFx
  have s0 := hB2.c0
  have s1 := hB2.c1
  have s2 := hB2.c2
  have s3 := hB2.c3
  have s4 := hB2.c4
  have s5 := hB2.c5
  have s6 := hB2.c6
  have s7 := hB2.c7
  have s8 := hB2.c8
  have s9 := hB2.c9
  clear hB2 hF2 HBX CW o2 hFx
  go_wp2_with fail
  refine (CRT.out _).mono ?_
  rintro e w3 ⟨rfl, hF3⟩
  have b1 : (0 : Int) ≤ (S : Int) ∧ (S : Int) ≤ (N : Int) ∧ (N : Int) ≤ (cb : Int) := by omega
  have b2 : (S : Int) ≤ (N : Int) := by omega
  have b3 : (S : Int) ≤ (cb : Int) := by omega
  have b4 : (N : Int) ≤ (cb : Int) := by omega
  have o3 := hF3.own O2.out (by simp)
  have cC := CC.out (some ⟨g, 0, none⟩) cb w3 (by rw [← B8_take]; exact (Rd.own o3).take S)
  have CC' := Lib.hid cC
  have O3 := Lib.hid o3
  have HF23 := Lib.hid hF3
  clear cC o3 CC CRT hF3 s0 s1 s2 s3 s4 s5 s6 s7 s8 s9
  go_wp2_with fail
  refine CC'.out.mono ?_
  rintro e w4 ⟨rfl, hF4⟩
  obtain ⟨E, hE⟩ : ∃ E : Option Addr, E = if cb = S then some ⟨g, 0, none⟩ else some ⟨g, S, none⟩ := ⟨_, rfl⟩
  have hif := hE.symm
  have o4 := hF4.own O3.out (by simp)
  have hrE : Rd w4 E (B8 d) := by
    rw [hE]
    have := rd_from (k := S) (c := cb) (Rd.own o4) (by rw [HLN.out]; omega)
    rw [HDR.out] at this
    exact this
  have hF14 := HFX.out.trans (HF23.out.trans hF4)
  have cS := same_any E A2 (N - S) m (cb - S) c2 d d w4 (by rw [HD.out, HNM.out]) HD.out hrE (HRD.out.fr hF14 (by simp)) (by omega)
  unfold EqP at cS
  simp only [decide_true] at cS
  have CS := Lib.hid cS
  have O4 := Lib.hid o4
  have HF14 := Lib.hid hF14
  have HB4 := Lib.hid (HB2.out.fr (HF23.out.trans hF4) (by simp))
  clear cS o4 hF14 hE hrE hF4 CC' O3 O2 HF23 HFX HB2
  go_wp2_with fail
  refine CS.out.mono ?_
  rintro e w5 ⟨rfl, hS5⟩
  have HF15 := Lib.hid (HF14.out.trans hS5.fr)
  have HB5 := Lib.hid (HB4.out.fr hS5.fr (by simp))
  have O5 := Lib.hid (hS5.fr.own O4.out (by simp))
  clear hif hS5 CS O4 HF14 HB4
  go_wp2_with fail
  have wq : IntKind.i64.wrap (q : Int) = (q : Int) := IntWalk.i64_in _ (by omega)
  have wN : IntKind.i64.wrap (N : Int) = (N : Int) := IntWalk.i64_in _ (by omega)
  have q1 : (0 : Int) ≤ (q : Int) ∧ (q : Int) ≤ (c1 : Int) := by omega
  have q2 : (q : Int) ≤ (c1 : Int) := by omega
  have q3 : (0 : Int) ≤ (N : Int) ∧ (N : Int) ≤ (N : Int) ∧ (N : Int) ≤ (cb : Int) := by omega
  refine wp_region_any (by kernel_rfl) ?_
  change wpAny _ _ _ _ _ _ _ (World.drew _)
  have HF16 := Lib.hid HF15.out.drew
  have HB6 := Lib.hid (HB5.out.fr (Fr.refl [] w5).drew (by simp))
  have O6 := Lib.hid ((Fr.refl [] w5).drew.own O5.out (by simp))
  generalize w5.drew = w6 at HF16 HB6 O6 ⊢
  clear HF15 HB5 O5
  have AF := Lib.hid (fun W (hW : Fr [] w6 W) => afl_run (P := Try.prog) (t := 23) (e := 5) (bytes := 1) el8 W 23 (some ⟨g, 0, none⟩) N (B8 L) (by rw [B8_length, HLN.out]) (Rd.own (hW.own O6.out (by simp))) (by simp) B1 q c1 (B8 Z) (by rw [B8_length, HYL.out]) (HYR.out.fr (hF1.trans (HF16.out.trans hW)) (by simp)) (B8_one _) HYN.out (by unfold maxLen; omega) (by omega))

  refine wpAny_take (i := 0) (v := ?_) rfl (by kernel_rfl) (by kernel_rfl) (by kernel_rfl) (fun _ _ _ h => h) (Or.inl ⟨by rfl, ?_⟩) ?_
  rotate_left 1
  · intro w; go_simp; with_reducible rfl
  try simp only [Act.put, List.getElem_toArray, List.getElem_cons_zero, List.setIfInBounds_toArray, List.set_cons_zero, List.set_cons_succ]
  refine wpAny_take (i := 1) (v := ?_) rfl (by kernel_rfl) (by kernel_rfl) (by kernel_rfl) (fun _ _ _ h => h) (Or.inl ⟨by rfl, ?_⟩) ?_
  rotate_left 1
  · intro w; go_simp; with_reducible rfl
  try simp only [Act.put, List.getElem_toArray, List.getElem_cons_succ, List.getElem_cons_zero, List.setIfInBounds_toArray, List.set_cons_zero, List.set_cons_succ]
  refine wpAny_take (i := 2) (v := ?_) rfl (by kernel_rfl) (by kernel_rfl) (by kernel_rfl) (fun _ _ _ h => h) (Or.inl ⟨by rfl, ?_⟩) ?_
  rotate_left 1
  · intro w; go_simp; with_reducible rfl
  try simp only [Act.put, List.getElem_toArray, List.getElem_cons_succ, List.getElem_cons_zero, List.setIfInBounds_toArray, List.set_cons_zero, List.set_cons_succ]
  refine wpAny_take (i := 3) (v := ?_) rfl (by kernel_rfl) (by kernel_rfl) (by kernel_rfl) (fun _ _ _ h => h) (Or.inl ⟨by rfl, ?_⟩) ?_
  rotate_left 1
  · intro w; go_simp; with_reducible rfl
  try simp only [Act.put, List.getElem_toArray, List.getElem_cons_succ, List.getElem_cons_zero, List.setIfInBounds_toArray, List.set_cons_zero, List.set_cons_succ]
  refine wpAny_take (i := 4) (v := ?_) rfl (by kernel_rfl) (by kernel_rfl) (by kernel_rfl) (fun _ _ _ h => h) (Or.inl ⟨by rfl, ?_⟩) ?_
  rotate_left 1
  · intro w; go_simp; with_reducible rfl
  try simp only [Act.put, List.getElem_toArray, List.getElem_cons_succ, List.getElem_cons_zero, List.setIfInBounds_toArray, List.set_cons_zero, List.set_cons_succ]
  refine wpAny_take (i := 5) (v := ?_) rfl (by kernel_rfl) (by kernel_rfl) (by kernel_rfl) (fun _ _ _ h => h) (Or.inl ⟨by rfl, ?_⟩) ?_
  rotate_left 1
  · intro w; go_simp; with_reducible rfl
  try simp only [Act.put, List.getElem_toArray, List.getElem_cons_succ, List.getElem_cons_zero, List.setIfInBounds_toArray, List.set_cons_zero, List.set_cons_succ]
  refine wpAny_take (i := 6) (v := ?_) rfl (by kernel_rfl) (by kernel_rfl) (by kernel_rfl) (fun _ _ _ h => h) (Or.inl ⟨by rfl, ?_⟩) ?_
  rotate_left 1
  · intro w; go_simp; with_reducible rfl
  try simp only [Act.put, List.getElem_toArray, List.getElem_cons_succ, List.getElem_cons_zero, List.setIfInBounds_toArray, List.set_cons_zero, List.set_cons_succ]
  refine wpAny_take (i := 7) (v := ?_) rfl (by kernel_rfl) (by kernel_rfl) (by kernel_rfl) (fun _ _ _ h => h) (Or.inl ⟨by rfl, ?_⟩) ?_
  rotate_left 1
  · intro w; go_simp; with_reducible rfl
  try simp only [Act.put, List.getElem_toArray, List.getElem_cons_succ, List.getElem_cons_zero, List.setIfInBounds_toArray, List.set_cons_zero, List.set_cons_succ]
  refine wpAny_take (i := 8) (v := ?_) rfl (by kernel_rfl) (by kernel_rfl) (by kernel_rfl) (fun _ _ _ h => h) (Or.inl ⟨by rfl, ?_⟩) ?_
  rotate_left 1
  · intro w; go_simp; with_reducible rfl
  try simp only [Act.put, List.getElem_toArray, List.getElem_cons_succ, List.getElem_cons_zero, List.setIfInBounds_toArray, List.set_cons_zero, List.set_cons_succ]
  refine wpAny_take (i := 9) (v := ?_) rfl (by kernel_rfl) (by kernel_rfl) (by kernel_rfl) (fun _ _ _ h => h) (Or.inl ⟨by rfl, ?_⟩) ?_
  rotate_left 1
  · intro w; go_simp; with_reducible rfl
  try simp only [Act.put, List.getElem_toArray, List.getElem_cons_succ, List.getElem_cons_zero, List.setIfInBounds_toArray, List.set_cons_zero, List.set_cons_succ]
  refine wpAny_take (i := 10) (v := ?_) rfl (by kernel_rfl) (by kernel_rfl) (by kernel_rfl) (fun _ _ _ h => h) (Or.inl ⟨by rfl, ?_⟩) ?_
  rotate_left 1
  · intro w; go_simp; with_reducible rfl
  try simp only [Act.put, List.getElem_toArray, List.getElem_cons_succ, List.getElem_cons_zero, List.setIfInBounds_toArray, List.set_cons_zero, List.set_cons_succ]
  clear q1 q2 q3 wq wN
  as_aux_lemma =>
    obtain ⟨v4, w7, hr4, A4, c4, rfl, hrd4, hc4, hc4m, hn4, hF4⟩ := AF.out w6 (Fr.refl _ _)
    rw [← B8_append] at hrd4
    have HRD4 := Lib.hid hrd4
    have HF4 := Lib.hid hF4
    clear hrd4 hF4 hn4 hc4m
    refine wpAny_ready (rs := [11, 18]) (by kernel_rfl) (by simp) ?_
    refine AllReady.cons rfl (fun K hK => ?_) (AllReady.cons rfl (fun K hK => ?_) AllReady.nil)
    · refine step_app rfl _ _ _ rfl hr4 rfl rfl ?_
      refine hK _ _ ?_
      clear hK K hr4
      refine wpAny_ready (rs := [12, 18]) (by kernel_rfl) (by simp) ?_
      refine AllReady.cons rfl (fun K hK => ?_) (AllReady.cons rfl (fun K hK => ?_) AllReady.nil)
      · go_simp
        refine (CY.out A4 c4 _ (HRD4.out) hc4).mono ?_
        rintro e w8 ⟨A5, c5, rfl, o5, hF5⟩
        refine hK _ _ ?_
        clear hK K
        have O5 := Lib.hid o5
        have HF5 := Lib.hid hF5
        clear o5 hF5
        refine wpAny_take (i := 13) (v := ?_) rfl (by kernel_rfl) (by kernel_rfl) (by kernel_rfl) (fun _ _ _ h => h) (Or.inl ⟨by rfl, ?_⟩) ?_
        rotate_left 1
        · intro w; go_simp; with_reducible rfl
        try simp only [Act.put, List.getElem_toArray, List.getElem_cons_succ, List.getElem_cons_zero, List.setIfInBounds_toArray, List.set_cons_zero, List.set_cons_succ]
        refine wpAny_take (i := 14) (v := ?_) rfl (by kernel_rfl) (by kernel_rfl) (by kernel_rfl) (fun _ _ _ h => h) (Or.inl ⟨by rfl, ?_⟩) ?_
        rotate_left 1
        · intro w; go_simp; with_reducible rfl
        try simp only [Act.put, List.getElem_toArray, List.getElem_cons_succ, List.getElem_cons_zero, List.setIfInBounds_toArray, List.set_cons_zero, List.set_cons_succ]
        refine wpAny_take (i := 15) (v := ?_) rfl (by kernel_rfl) (by kernel_rfl) (by kernel_rfl) (fun _ _ _ h => h) (Or.inl ⟨by rfl, ?_⟩) ?_
        rotate_left 1
        · intro w; go_simp; with_reducible rfl
        try simp only [Act.put, List.getElem_toArray, List.getElem_cons_succ, List.getElem_cons_zero, List.setIfInBounds_toArray, List.set_cons_zero, List.set_cons_succ]
        refine wpAny_take (i := 16) (v := ?_) rfl (by kernel_rfl) (by kernel_rfl) (by kernel_rfl) (fun _ _ _ h => h) (Or.inl ⟨by rfl, ?_⟩) ?_
        rotate_left 1
        · intro w; go_simp; with_reducible rfl
        try simp only [Act.put, List.getElem_toArray, List.getElem_cons_succ, List.getElem_cons_zero, List.setIfInBounds_toArray, List.set_cons_zero, List.set_cons_succ]
        refine wpAny_take (i := 17) (v := ?_) rfl (by kernel_rfl) (by kernel_rfl) (by kernel_rfl) (fun _ _ _ h => h) (Or.inl ⟨by rfl, ?_⟩) ?_
        rotate_left 1
        · intro w; go_simp; with_reducible rfl
        try simp only [Act.put, List.getElem_toArray, List.getElem_cons_succ, List.getElem_cons_zero, List.setIfInBounds_toArray, List.set_cons_zero, List.set_cons_succ]
        refine wpAny_ready (rs := [18]) (by kernel_rfl) (by simp) ?_
        refine AllReady.cons rfl (fun K hK => ?_) AllReady.nil
        go_simp
        refine hK _ _ ?_
        clear hK K
        have HFS := Lib.hid ((HF16.out.trans (HF4.out.trans HF5.out)).alloc (.cells #[.int .u8 0, .int .u16 0, .bool false, .bool false, .int .i64 0, .int .u8 0, .int .u8 0, .int .u32 0, .int .u32 0, .slice none 0 0] 30))
        have HBS := Lib.hid (HB6.out.fr ((HF4.out.trans HF5.out).alloc (.cells #[.int .u8 0, .int .u16 0, .bool false, .bool false, .int .i64 0, .int .u8 0, .int .u8 0, .int .u32 0, .int .u32 0, .slice none 0 0] 30)) (by simp))
        have hne : ∀ k, Value.ownBlock (.slice A5 n c5) = some k → k ≠ w8.heap.size := fun k hk => by have := (O5.out.lt k hk).2; omega
        have OS := Lib.hid (((Fr.refl [] w8).alloc (.cells #[.int .u8 0, .int .u16 0, .bool false, .bool false, .int .i64 0, .int .u8 0, .int .u8 0, .int .u32 0, .int .u32 0, .slice none 0 0] 30)).own O5.out (by simp))
        have HZS := Lib.hid (blk_new w8 #[.int .u8 0, .int .u16 0, .bool false, .bool false, .int .i64 0, .int .u8 0, .int .u8 0, .int .u32 0, .int .u32 0, .slice none 0 0] 30 rfl)
        have hgB : w1.heap.size < w8.heap.size := by have := lt_of_block HB6.out; have := HF4.out.size; have := HF5.out.size; omega
        obtain ⟨wS, hS0⟩ : ∃ wS, wS = w8.alloc (.cells #[.int .u8 0, .int .u16 0, .bool false, .bool false, .int .i64 0, .int .u8 0, .int .u8 0, .int .u32 0, .int .u32 0, .slice none 0 0] 30) := ⟨_, rfl⟩
        rw [← hS0] at HFS HBS OS HZS ⊢
        clear hS0
        generalize w8.heap.size = gB at HZS hne hgB ⊢
        refine wpAny_ready (rs := [19]) (by kernel_rfl) (by simp) ?_
        refine AllReady.cons rfl (fun K hK => ?_) AllReady.nil
        rw [if_pos (by rfl)]
        refine wp_store_row 30 _ _ rfl (gB) #[.int .u8 h.tos, .int .u16 h.id, .bool h.df, .bool h.mf, .int .i64 h.off, .int .u8 h.ttl, .int .u8 h.proto, .int .u32 h.src, .int .u32 h.dst, .slice A5 n c5] rfl rfl _ _ HZS.out (by kernel_rfl) rfl (by simp [Value.oneCell']) ?_
        obtain ⟨wE, hE⟩ : ∃ wE, wE = wS.setRow (gB) #[.int .u8 h.tos, .int .u16 h.id, .bool h.df, .bool h.mf, .int .i64 h.off, .int .u8 h.ttl, .int .u8 h.proto, .int .u32 h.src, .int .u32 h.dst, .slice A5 n c5] := ⟨_, rfl⟩
        have hFE : Fr [gB] wS wE := by rw [hE]; exact (Fr.refl _ _).setRow (.inl (by simp)) _
        have hBE : BoxH wE (gB) h A5 n c5 := by rw [hE]; exact setRow_heap wS (gB) _ _ _ _ HZS.out
        rw [← hE]
        clear hE
        refine hK _ _ ?_
        clear hK K
        refine wpAny_ready (rs := [20]) (by kernel_rfl) (by simp) ?_
        refine AllReady.cons rfl (fun K hK => ?_) AllReady.nil
        go_simp
        refine hK _ _ ?_
        clear hK K
        refine wpAny_ready (rs := [21]) (by kernel_rfl) (by simp) ?_
        refine AllReady.cons rfl (fun K hK => ?_) AllReady.nil
        go_simp
        refine hK _ _ ?_
        clear hK K
        refine wpAny_ready (rs := [22]) (by kernel_rfl) (by simp) ?_
        refine AllReady.cons rfl (fun K hK => ?_) AllReady.nil
        go_simp
        refine hK _ _ ?_
        clear hK K
        refine wpAny_done (by kernel_rfl) ?_ _
        have hF1E : Fr [] w1 wE := HFS.out.trans2 hFE (by simp; omega)
        have hBh := HBS.out.fr hFE (by simp; omega)
        have rd5 := Rd.own (hFE.own OS.out (fun k hk => by have := hne k hk; simp; omega))
        have cM := fun W (hW : Fr [] wE W) => same5 h A5 A n n c5 c W HLO.out HLO.out (rd5.fr hW (by simp)) (HRO.out.fr (hF1E.trans hW) (by simp)) (by omega)
        unfold HV at cM
        have CM := Lib.hid cM
        have HF1E := Lib.hid hF1E
        have a0 := hBE.c0
        have a1 := hBE.c1
        have a2 := hBE.c2
        have a3 := hBE.c3
        have a4 := hBE.c4
        have a5 := hBE.c5
        have a6 := hBE.c6
        have a7 := hBE.c7
        have a8 := hBE.c8
        have a9 := hBE.c9
        have d0 := hBh.c0
        have d1 := hBh.c1
        have d2 := hBh.c2
        have d3 := hBh.c3
        have d4 := hBh.c4
        have d5 := hBh.c5
        have d6 := hBh.c6
        have d7 := hBh.c7
        have d8 := hBh.c8
        have d9 := hBh.c9
        clear cM hF1E hBh hBE rd5 hFE HFS HBS OS HZS hne AF HRO O6 HF16 HB6 CY HDR HRD HD HLO HNM
        go_wp2_with fail
        refine (CM.out _ (Fr.refl _ _)).mono ?_
        rintro e w9 ⟨rfl, hF9⟩
        clear CM a0 a1 a2 a3 a4 a5 a6 a7 a8 a9 d0 d1 d2 d3 d4 d5 d6 d7 d8 d9
        go_wp2_with fail
        go_ret
        exact ⟨rfl, hF1.trans (HF1E.out.trans hF9)⟩
      · go_simp
        refine hK _ _ ?_
        clear hK K
        have HZ0 := Lib.hid (blk_new w7 #[.int .u8 0, .int .u16 0, .bool false, .bool false, .int .i64 0, .int .u8 0, .int .u8 0, .int .u32 0, .int .u32 0, .slice none 0 0] 30 rfl)
        have HA0 := Lib.hid ((Fr.refl [] w7).alloc (.cells #[.int .u8 0, .int .u16 0, .bool false, .bool false, .int .i64 0, .int .u8 0, .int .u8 0, .int .u32 0, .int .u32 0, .slice none 0 0] 30))
        have HGB : Hid (w1.heap.size < w7.heap.size) := by show _ < _; have := lt_of_block HB6.out; have := HF4.out.size; omega
        have hlz : w7.heap.size < (w7.alloc (.cells #[.int .u8 0, .int .u16 0, .bool false, .bool false, .int .i64 0, .int .u8 0, .int .u8 0, .int .u32 0, .int .u32 0, .slice none 0 0] 30)).heap.size := by simp
        generalize w7.alloc (.cells #[.int .u8 0, .int .u16 0, .bool false, .bool false, .int .i64 0, .int .u8 0, .int .u8 0, .int .u32 0, .int .u32 0, .slice none 0 0] 30) = wz at HZ0 HA0 hlz ⊢
        generalize w7.heap.size = gB at HZ0 HGB hlz ⊢
        refine wpAny_ready (rs := [12]) (by kernel_rfl) (by simp) ?_
        refine AllReady.cons rfl (fun K hK => ?_) AllReady.nil
        have HLB : Hid (gB < wz.heap.size) := hlz
        clear hlz
        go_simp
        refine (CY.out A4 c4 _ (HRD4.out.fr HA0.out (by simp)) hc4).mono ?_
        rintro e w8 ⟨A5, c5, rfl, o5, hF5⟩
        refine hK _ _ ?_
        clear hK K
        have O5 := Lib.hid o5
        have HF5 := Lib.hid hF5
        clear o5 hF5
        refine wpAny_take (i := 13) (v := ?_) rfl (by kernel_rfl) (by kernel_rfl) (by kernel_rfl) (fun _ _ _ h => h) (Or.inl ⟨by rfl, ?_⟩) ?_
        rotate_left 1
        · intro w; go_simp; with_reducible rfl
        try simp only [Act.put, List.getElem_toArray, List.getElem_cons_succ, List.getElem_cons_zero, List.setIfInBounds_toArray, List.set_cons_zero, List.set_cons_succ]
        refine wpAny_take (i := 14) (v := ?_) rfl (by kernel_rfl) (by kernel_rfl) (by kernel_rfl) (fun _ _ _ h => h) (Or.inl ⟨by rfl, ?_⟩) ?_
        rotate_left 1
        · intro w; go_simp; with_reducible rfl
        try simp only [Act.put, List.getElem_toArray, List.getElem_cons_succ, List.getElem_cons_zero, List.setIfInBounds_toArray, List.set_cons_zero, List.set_cons_succ]
        refine wpAny_take (i := 15) (v := ?_) rfl (by kernel_rfl) (by kernel_rfl) (by kernel_rfl) (fun _ _ _ h => h) (Or.inl ⟨by rfl, ?_⟩) ?_
        rotate_left 1
        · intro w; go_simp; with_reducible rfl
        try simp only [Act.put, List.getElem_toArray, List.getElem_cons_succ, List.getElem_cons_zero, List.setIfInBounds_toArray, List.set_cons_zero, List.set_cons_succ]
        refine wpAny_take (i := 16) (v := ?_) rfl (by kernel_rfl) (by kernel_rfl) (by kernel_rfl) (fun _ _ _ h => h) (Or.inl ⟨by rfl, ?_⟩) ?_
        rotate_left 1
        · intro w; go_simp; with_reducible rfl
        try simp only [Act.put, List.getElem_toArray, List.getElem_cons_succ, List.getElem_cons_zero, List.setIfInBounds_toArray, List.set_cons_zero, List.set_cons_succ]
        refine wpAny_take (i := 17) (v := ?_) rfl (by kernel_rfl) (by kernel_rfl) (by kernel_rfl) (fun _ _ _ h => h) (Or.inl ⟨by rfl, ?_⟩) ?_
        rotate_left 1
        · intro w; go_simp; with_reducible rfl
        try simp only [Act.put, List.getElem_toArray, List.getElem_cons_succ, List.getElem_cons_zero, List.setIfInBounds_toArray, List.set_cons_zero, List.set_cons_succ]
        have HFS := Lib.hid (HF16.out.trans (HF4.out.trans (HA0.out.trans HF5.out)))
        have HBS := Lib.hid (HB6.out.fr (HF4.out.trans (HA0.out.trans HF5.out)) (by simp))
        have OS := O5
        have hgb0 : w1.heap.size < gB := HGB.out
        have hlb := HLB.out
        have hne : ∀ k, Value.ownBlock (.slice A5 n c5) = some k → k ≠ gB := fun k hk => by have := (O5.out.lt k hk).1; omega
        have HZS := Lib.hid (HZ0.out.fr (HF5.out) (by simp))
        clear HZ0 hlb HLB
        obtain ⟨wS, hS0⟩ : ∃ wS, wS = w8 := ⟨_, rfl⟩
        rw [← hS0] at HFS HBS OS HZS ⊢
        clear hS0
        refine wpAny_ready (rs := [19]) (by kernel_rfl) (by simp) ?_
        refine AllReady.cons rfl (fun K hK => ?_) AllReady.nil
        rw [if_pos (by rfl)]
        refine wp_store_row 30 _ _ rfl (gB) #[.int .u8 h.tos, .int .u16 h.id, .bool h.df, .bool h.mf, .int .i64 h.off, .int .u8 h.ttl, .int .u8 h.proto, .int .u32 h.src, .int .u32 h.dst, .slice A5 n c5] rfl rfl _ _ HZS.out (by kernel_rfl) rfl (by simp [Value.oneCell']) ?_
        obtain ⟨wE, hE⟩ : ∃ wE, wE = wS.setRow (gB) #[.int .u8 h.tos, .int .u16 h.id, .bool h.df, .bool h.mf, .int .i64 h.off, .int .u8 h.ttl, .int .u8 h.proto, .int .u32 h.src, .int .u32 h.dst, .slice A5 n c5] := ⟨_, rfl⟩
        have hFE : Fr [gB] wS wE := by rw [hE]; exact (Fr.refl _ _).setRow (.inl (by simp)) _
        have hBE : BoxH wE (gB) h A5 n c5 := by rw [hE]; exact setRow_heap wS (gB) _ _ _ _ HZS.out
        rw [← hE]
        clear hE
        refine hK _ _ ?_
        clear hK K
        refine wpAny_ready (rs := [20]) (by kernel_rfl) (by simp) ?_
        refine AllReady.cons rfl (fun K hK => ?_) AllReady.nil
        go_simp
        refine hK _ _ ?_
        clear hK K
        refine wpAny_ready (rs := [21]) (by kernel_rfl) (by simp) ?_
        refine AllReady.cons rfl (fun K hK => ?_) AllReady.nil
        go_simp
        refine hK _ _ ?_
        clear hK K
        refine wpAny_ready (rs := [22]) (by kernel_rfl) (by simp) ?_
        refine AllReady.cons rfl (fun K hK => ?_) AllReady.nil
        go_simp
        refine hK _ _ ?_
        clear hK K
        refine wpAny_done (by kernel_rfl) ?_ _
        have hF1E : Fr [] w1 wE := HFS.out.trans2 hFE (by simp; omega)
        have hBh := HBS.out.fr hFE (by simp; omega)
        have rd5 := Rd.own (hFE.own OS.out (fun k hk => by have := hne k hk; simp; omega))
        have cM := fun W (hW : Fr [] wE W) => same5 h A5 A n n c5 c W HLO.out HLO.out (rd5.fr hW (by simp)) (HRO.out.fr (hF1E.trans hW) (by simp)) (by omega)
        unfold HV at cM
        have CM := Lib.hid cM
        have HF1E := Lib.hid hF1E
        have a0 := hBE.c0
        have a1 := hBE.c1
        have a2 := hBE.c2
        have a3 := hBE.c3
        have a4 := hBE.c4
        have a5 := hBE.c5
        have a6 := hBE.c6
        have a7 := hBE.c7
        have a8 := hBE.c8
        have a9 := hBE.c9
        have d0 := hBh.c0
        have d1 := hBh.c1
        have d2 := hBh.c2
        have d3 := hBh.c3
        have d4 := hBh.c4
        have d5 := hBh.c5
        have d6 := hBh.c6
        have d7 := hBh.c7
        have d8 := hBh.c8
        have d9 := hBh.c9
        clear cM hF1E hBh hBE rd5 hFE HFS HBS OS HZS hne AF HRO O6 HF16 HB6 CY HDR HRD HD HLO HNM
        go_wp2_with fail
        refine (CM.out _ (Fr.refl _ _)).mono ?_
        rintro e w9 ⟨rfl, hF9⟩
        clear CM a0 a1 a2 a3 a4 a5 a6 a7 a8 a9 d0 d1 d2 d3 d4 d5 d6 d7 d8 d9
        go_wp2_with fail
        go_ret
        exact ⟨rfl, hF1.trans (HF1E.out.trans hF9)⟩
    · clear hr4 HRD4 HF4 hc4 A4 c4 w7
      go_simp
      refine hK _ _ ?_
      clear hK K
      have HZ0 := Lib.hid (blk_new w6 #[.int .u8 0, .int .u16 0, .bool false, .bool false, .int .i64 0, .int .u8 0, .int .u8 0, .int .u32 0, .int .u32 0, .slice none 0 0] 30 rfl)
      have HA0 := Lib.hid ((Fr.refl [] w6).alloc (.cells #[.int .u8 0, .int .u16 0, .bool false, .bool false, .int .i64 0, .int .u8 0, .int .u8 0, .int .u32 0, .int .u32 0, .slice none 0 0] 30))
      have HGB : Hid (w1.heap.size < w6.heap.size) := by show _ < _; have := lt_of_block HB6.out;  omega
      have hlz : w6.heap.size < (w6.alloc (.cells #[.int .u8 0, .int .u16 0, .bool false, .bool false, .int .i64 0, .int .u8 0, .int .u8 0, .int .u32 0, .int .u32 0, .slice none 0 0] 30)).heap.size := by simp
      generalize w6.alloc (.cells #[.int .u8 0, .int .u16 0, .bool false, .bool false, .int .i64 0, .int .u8 0, .int .u8 0, .int .u32 0, .int .u32 0, .slice none 0 0] 30) = wz at HZ0 HA0 hlz ⊢
      generalize w6.heap.size = gB at HZ0 HGB hlz ⊢
      obtain ⟨v4, w7, hr4, A4, c4, rfl, hrd4, hc4, hc4m, hn4, hF4⟩ := AF.out wz (HA0.out)
      rw [← B8_append] at hrd4
      have HRD4 := Lib.hid hrd4
      have HF4 := Lib.hid hF4
      clear hrd4 hF4 hn4 hc4m
      refine wpAny_ready (rs := [11]) (by kernel_rfl) (by simp) ?_
      refine AllReady.cons rfl (fun K hK => ?_) AllReady.nil
      refine step_app rfl _ _ _ rfl hr4 rfl rfl ?_
      refine hK _ _ ?_
      clear hK K hr4
      refine wpAny_ready (rs := [12]) (by kernel_rfl) (by simp) ?_
      refine AllReady.cons rfl (fun K hK => ?_) AllReady.nil
      have HLB : Hid (gB < w7.heap.size) := by show _ < _; have := HF4.out.size; omega
      clear hlz
      go_simp
      refine (CY.out A4 c4 _ (HRD4.out) hc4).mono ?_
      rintro e w8 ⟨A5, c5, rfl, o5, hF5⟩
      refine hK _ _ ?_
      clear hK K
      have O5 := Lib.hid o5
      have HF5 := Lib.hid hF5
      clear o5 hF5
      refine wpAny_take (i := 13) (v := ?_) rfl (by kernel_rfl) (by kernel_rfl) (by kernel_rfl) (fun _ _ _ h => h) (Or.inl ⟨by rfl, ?_⟩) ?_
      rotate_left 1
      · intro w; go_simp; with_reducible rfl
      try simp only [Act.put, List.getElem_toArray, List.getElem_cons_succ, List.getElem_cons_zero, List.setIfInBounds_toArray, List.set_cons_zero, List.set_cons_succ]
      refine wpAny_take (i := 14) (v := ?_) rfl (by kernel_rfl) (by kernel_rfl) (by kernel_rfl) (fun _ _ _ h => h) (Or.inl ⟨by rfl, ?_⟩) ?_
      rotate_left 1
      · intro w; go_simp; with_reducible rfl
      try simp only [Act.put, List.getElem_toArray, List.getElem_cons_succ, List.getElem_cons_zero, List.setIfInBounds_toArray, List.set_cons_zero, List.set_cons_succ]
      refine wpAny_take (i := 15) (v := ?_) rfl (by kernel_rfl) (by kernel_rfl) (by kernel_rfl) (fun _ _ _ h => h) (Or.inl ⟨by rfl, ?_⟩) ?_
      rotate_left 1
      · intro w; go_simp; with_reducible rfl
      try simp only [Act.put, List.getElem_toArray, List.getElem_cons_succ, List.getElem_cons_zero, List.setIfInBounds_toArray, List.set_cons_zero, List.set_cons_succ]
      refine wpAny_take (i := 16) (v := ?_) rfl (by kernel_rfl) (by kernel_rfl) (by kernel_rfl) (fun _ _ _ h => h) (Or.inl ⟨by rfl, ?_⟩) ?_
      rotate_left 1
      · intro w; go_simp; with_reducible rfl
      try simp only [Act.put, List.getElem_toArray, List.getElem_cons_succ, List.getElem_cons_zero, List.setIfInBounds_toArray, List.set_cons_zero, List.set_cons_succ]
      refine wpAny_take (i := 17) (v := ?_) rfl (by kernel_rfl) (by kernel_rfl) (by kernel_rfl) (fun _ _ _ h => h) (Or.inl ⟨by rfl, ?_⟩) ?_
      rotate_left 1
      · intro w; go_simp; with_reducible rfl
      try simp only [Act.put, List.getElem_toArray, List.getElem_cons_succ, List.getElem_cons_zero, List.setIfInBounds_toArray, List.set_cons_zero, List.set_cons_succ]
      have HFS := Lib.hid (HF16.out.trans (HA0.out.trans (HF4.out.trans HF5.out)))
      have HBS := Lib.hid (HB6.out.fr (HA0.out.trans (HF4.out.trans HF5.out)) (by simp))
      have OS := O5
      have hgb0 : w1.heap.size < gB := HGB.out
      have hlb := HLB.out
      have hne : ∀ k, Value.ownBlock (.slice A5 n c5) = some k → k ≠ gB := fun k hk => by have := (O5.out.lt k hk).1; omega
      have HZS := Lib.hid (HZ0.out.fr (HF4.out.trans HF5.out) (by simp))
      clear HZ0 hlb HLB
      obtain ⟨wS, hS0⟩ : ∃ wS, wS = w8 := ⟨_, rfl⟩
      rw [← hS0] at HFS HBS OS HZS ⊢
      clear hS0
      refine wpAny_ready (rs := [19]) (by kernel_rfl) (by simp) ?_
      refine AllReady.cons rfl (fun K hK => ?_) AllReady.nil
      rw [if_pos (by rfl)]
      refine wp_store_row 30 _ _ rfl (gB) #[.int .u8 h.tos, .int .u16 h.id, .bool h.df, .bool h.mf, .int .i64 h.off, .int .u8 h.ttl, .int .u8 h.proto, .int .u32 h.src, .int .u32 h.dst, .slice A5 n c5] rfl rfl _ _ HZS.out (by kernel_rfl) rfl (by simp [Value.oneCell']) ?_
      obtain ⟨wE, hE⟩ : ∃ wE, wE = wS.setRow (gB) #[.int .u8 h.tos, .int .u16 h.id, .bool h.df, .bool h.mf, .int .i64 h.off, .int .u8 h.ttl, .int .u8 h.proto, .int .u32 h.src, .int .u32 h.dst, .slice A5 n c5] := ⟨_, rfl⟩
      have hFE : Fr [gB] wS wE := by rw [hE]; exact (Fr.refl _ _).setRow (.inl (by simp)) _
      have hBE : BoxH wE (gB) h A5 n c5 := by rw [hE]; exact setRow_heap wS (gB) _ _ _ _ HZS.out
      rw [← hE]
      clear hE
      refine hK _ _ ?_
      clear hK K
      refine wpAny_ready (rs := [20]) (by kernel_rfl) (by simp) ?_
      refine AllReady.cons rfl (fun K hK => ?_) AllReady.nil
      go_simp
      refine hK _ _ ?_
      clear hK K
      refine wpAny_ready (rs := [21]) (by kernel_rfl) (by simp) ?_
      refine AllReady.cons rfl (fun K hK => ?_) AllReady.nil
      go_simp
      refine hK _ _ ?_
      clear hK K
      refine wpAny_ready (rs := [22]) (by kernel_rfl) (by simp) ?_
      refine AllReady.cons rfl (fun K hK => ?_) AllReady.nil
      go_simp
      refine hK _ _ ?_
      clear hK K
      refine wpAny_done (by kernel_rfl) ?_ _
      have hF1E : Fr [] w1 wE := HFS.out.trans2 hFE (by simp; omega)
      have hBh := HBS.out.fr hFE (by simp; omega)
      have rd5 := Rd.own (hFE.own OS.out (fun k hk => by have := hne k hk; simp; omega))
      have cM := fun W (hW : Fr [] wE W) => same5 h A5 A n n c5 c W HLO.out HLO.out (rd5.fr hW (by simp)) (HRO.out.fr (hF1E.trans hW) (by simp)) (by omega)
      unfold HV at cM
      have CM := Lib.hid cM
      have HF1E := Lib.hid hF1E
      have a0 := hBE.c0
      have a1 := hBE.c1
      have a2 := hBE.c2
      have a3 := hBE.c3
      have a4 := hBE.c4
      have a5 := hBE.c5
      have a6 := hBE.c6
      have a7 := hBE.c7
      have a8 := hBE.c8
      have a9 := hBE.c9
      have d0 := hBh.c0
      have d1 := hBh.c1
      have d2 := hBh.c2
      have d3 := hBh.c3
      have d4 := hBh.c4
      have d5 := hBh.c5
      have d6 := hBh.c6
      have d7 := hBh.c7
      have d8 := hBh.c8
      have d9 := hBh.c9
      clear cM hF1E hBh hBE rd5 hFE HFS HBS OS HZS hne AF HRO O6 HF16 HB6 CY HDR HRD HD HLO HNM
      go_wp2_with fail
      refine (CM.out _ (Fr.refl _ _)).mono ?_
      rintro e w9 ⟨rfl, hF9⟩
      clear CM a0 a1 a2 a3 a4 a5 a6 a7 a8 a9 d0 d1 d2 d3 d4 d5 d6 d7 d8 d9
      go_wp2_with fail
      go_ret
      exact ⟨rfl, hF1.trans (HF1E.out.trans hF9)⟩
end Go.Proofs.Ytjpcfphmejenoaa
