/- ReadKey. -/
import Derived.Test.YteblkheodjibbaaDoorEnd
namespace Go.Proofs.YteblkheodjibbaaDoor
open Go.RowKit
set_option linter.unusedVariables false
set_option maxRecDepth 20000

set_option maxHeartbeats 8000000 in
theorem readKey_any (s : ByteArray) (hs : s.size ≤ 281474976710656) (W : World) (hV : VV W) : Calls Tryd.prog 11 #[.string s] W (KeyP W s.data.toList) := by
  have hF0 : Fr [] W (W.alloc (.cells #[.int .u8 0, .int .u32 0, .int .u32 0, .int .u16 0, .int .u16 0] 27)) := (Fr.refl _ _).alloc _
  have hb0 := blk_new W #[.int .u8 0, .int .u32 0, .int .u32 0, .int .u16 0, .int .u16 0] 27
  have hS := fun W => splitN_any s 32 3 _ W hs (by decide) (by decide) rfl
  simp only [size_of] at hS
  rcases pieces3 s.data.toList _ rfl with ⟨h1, h2⟩ | ⟨x1, x2, x3, h1, h2, h3, g1, g2⟩
  · rw [← str_of (s := s) rfl] at h1
    generalize min 3 (s.data.toList.length + 1) = N at hS h1
    generalize Lib.splitB ⟨#[32]⟩ 0 (N - 1) s = L at hS h1
    have hl : ((L.length : Int) == 3) = false := by rw [beq_eq_false_iff_ne]; omega
    have hl2 : ¬ L.length = 3 := h1
    have H2 := Lib.hid h2
    clear h1 h2
    go_enter Tryd.func11, Tryd.ntmps11
    go_wp2_with fail
    generalize W.alloc (.cells #[.int .u8 0, .int .u32 0, .int .u32 0, .int .u16 0, .int .u16 0] 27) = w0 at hF0 hb0 ⊢
    refine (hS _).mono ?_
    rintro e w1 ⟨rfl, hw⟩
    have hF1 : Fr [] w0 w1 := by rw [hw]; exact (Fr.refl _ _).alloc _
    have hbk := hF1.blk hb0 (by simp)
    have hF := hF0.trans hF1
    clear hS hb0 hF0 hF1 hw
    have z0 := blk_cell hbk (j := 0) rfl
    have f0 := blk_fz (j := 0) hbk
    have z1 := blk_cell hbk (j := 1) rfl
    have f1 := blk_fz (j := 1) hbk
    have z2 := blk_cell hbk (j := 2) rfl
    have f2 := blk_fz (j := 2) hbk
    have z3 := blk_cell hbk (j := 3) rfl
    have f3 := blk_fz (j := 3) hbk
    have z4 := blk_cell hbk (j := 4) rfl
    have f4 := blk_fz (j := 4) hbk
    go_wp2_with fail
    (try simp only [Exit.inBlock, Exit.then])
    have ⟨e0, e1, e2, e3, e4⟩ := five_set hbk (.int .u8 0) (.int .u32 0) (.int .u32 0) (.int .u16 0) (.int .u16 0) _ rfl
    refine bodyPost_ret (v := .tuple #[.agg #[.int .u8 0, .int .u32 0, .int .u32 0, .int .u16 0, .int .u16 0], .int .i64 30]) ?_ rfl ⟨((((hF.setCell (.inr (Nat.le_refl _)) _).setCell (.inr (Nat.le_refl _)) _).setCell (.inr (Nat.le_refl _)) _).setCell (.inr (Nat.le_refl _)) _).setCell (.inr (Nat.le_refl _)) _, .inr ⟨fun k a b p q _ => H2.out k a p b q, rfl⟩⟩
    rw [results_cell_tmp rfl]
    generalize (World.setCell _ _ _) = wz at e0 e1 e2 e3 e4 ⊢
    go_simp
  · rw [← str_of (s := s) rfl] at h2
    rw [h2] at hS
    rw [h1] at hS
    have H3 := Lib.hid h3
    have hsz : x1.length ≤ s.size ∧ x2.length ≤ s.size ∧ x3.length ≤ s.size := by
      rw [size_of, h3]; simp only [List.length_append, List.length_cons]; omega
    have HZ := Lib.hid hsz
    have fail : (∀ k a b p q, KOK k a b p q → ¬ (x1 = dec k ∧ x2 = etext a p ∧ x3 = etext b q)) → ∀ k a b p q, KOK k a b p q → s.data.toList ≠ ktext k a p b q := fun h k a b p q hk he => h k a b p q hk (keys_uniq g1 g2 (h3.symm.trans he))
    have FAIL := Lib.hid fail
    clear h1 h2 h3 hsz g1 g2 fail
    have hcs : Lib.cellsOf [⟨x1.toArray⟩, ⟨x2.toArray⟩, ⟨x3.toArray⟩] 3 = #[.string ⟨x1.toArray⟩, .string ⟨x2.toArray⟩, .string ⟨x3.toArray⟩] := rfl
    rw [hcs] at hS
    go_enter Tryd.func11, Tryd.ntmps11
    go_wp2_with fail
    generalize W.alloc (.cells #[.int .u8 0, .int .u32 0, .int .u32 0, .int .u16 0, .int .u16 0] 27) = w0 at hF0 hb0 ⊢
    refine (hS _).mono ?_
    rintro e w1 ⟨rfl, hw⟩
    have hF1 : Fr [] w0 w1 := by rw [hw]; exact (Fr.refl _ _).alloc _
    have hbk := hF1.blk hb0 (by simp)
    have hc1 : w1.cell? ⟨w0.heap.size, 0, none⟩ = some (.string ⟨x1.toArray⟩) := by rw [hw]; exact new_cell _ _ _ 0 _ rfl
    have hc2 : w1.cell? ⟨w0.heap.size, 1, none⟩ = some (.string ⟨x2.toArray⟩) := by rw [hw]; exact new_cell _ _ _ 1 _ rfl
    have hc3 : w1.cell? ⟨w0.heap.size, 2, none⟩ = some (.string ⟨x3.toArray⟩) := by rw [hw]; exact new_cell _ _ _ 2 _ rfl
    have hF := hF0.trans hF1
    clear hS hb0 hF0 hF1 hw hcs
    have hV1 := hV.fr hF
    clear hV
    go_wp2_with fail
    refine (num8_any ⟨x1.toArray⟩ (by rw [size_of]; exact Nat.le_trans HZ.out.1 hs) _ hV1).mono ?_
    rintro e w2 ⟨hG, hN⟩
    replace hbk := hG.blk hbk (by simp)
    replace hc2 := hG.cell hc2 (by simp)
    replace hc3 := hG.cell hc3 (by simp)
    replace hF := hF.trans hG
    have hV2 := hV1.fr hG
    clear hG hV1 hc1
    rcases hN with ⟨k, hk, hx, rfl⟩ | ⟨hx, rfl⟩
    · have HX := Lib.hid hx
      clear hx
      go_wp2_with fail
      refine (readEnd_any ⟨x2.toArray⟩ (by rw [size_of]; exact Nat.le_trans HZ.out.2.1 hs) _ hV2).mono ?_
      rintro e w3 ⟨hG, hA⟩
      replace hbk := hG.blk hbk (by simp)
      replace hc3 := hG.cell hc3 (by simp)
      replace hF := hF.trans hG
      have hV3 := hV2.fr hG
      clear hG hV2 hc2
      rcases hA with ⟨a, p, ha, hp, hy, rfl⟩ | ⟨hy, rfl⟩
      · have HY := Lib.hid hy
        clear hy
        go_wp2_with fail
        refine (readEnd_any ⟨x3.toArray⟩ (by rw [size_of]; exact Nat.le_trans HZ.out.2.2 hs) _ hV3).mono ?_
        rintro e w4 ⟨hG, hB⟩
        replace hbk := hG.blk hbk (by simp)
        replace hF := hF.trans hG
        clear hG hV3 hc3
        rcases hB with ⟨b, q, hb, hq, hz, rfl⟩ | ⟨hz, rfl⟩
        · have HW := Lib.hid hz
          clear hz
          have z0 := blk_cell hbk (j := 0) rfl
          have f0 := blk_fz (j := 0) hbk
          have z1 := blk_cell hbk (j := 1) rfl
          have f1 := blk_fz (j := 1) hbk
          have z2 := blk_cell hbk (j := 2) rfl
          have f2 := blk_fz (j := 2) hbk
          have z3 := blk_cell hbk (j := 3) rfl
          have f3 := blk_fz (j := 3) hbk
          have z4 := blk_cell hbk (j := 4) rfl
          have f4 := blk_fz (j := 4) hbk
          go_wp2_with fail
          (try simp only [Exit.inBlock, Exit.then])
          have ⟨e0, e1, e2, e3, e4⟩ := five_set hbk (.int .u8 k) (.int .u32 a) (.int .u32 b) (.int .u16 p) (.int .u16 q) _ rfl
          refine bodyPost_ret (v := .tuple #[.agg #[.int .u8 k, .int .u32 a, .int .u32 b, .int .u16 p, .int .u16 q], .int .i64 0]) ?_ rfl ⟨((((hF.setCell (.inr (Nat.le_refl _)) _).setCell (.inr (Nat.le_refl _)) _).setCell (.inr (Nat.le_refl _)) _).setCell (.inr (Nat.le_refl _)) _).setCell (.inr (Nat.le_refl _)) _, .inl ⟨k, a, b, p, q, ⟨hk, ha, hb, hp, hq⟩, by rw [H3.out, show x1 = dec k from HX.out, show x2 = etext a p from HY.out, show x3 = etext b q from HW.out]; rfl, rfl⟩⟩
          rw [results_cell_tmp rfl]
          generalize (World.setCell _ _ _) = wz at e0 e1 e2 e3 e4 ⊢
          go_simp
        · have HW := Lib.hid hz
          clear hz
          have z0 := blk_cell hbk (j := 0) rfl
          have f0 := blk_fz (j := 0) hbk
          have z1 := blk_cell hbk (j := 1) rfl
          have f1 := blk_fz (j := 1) hbk
          have z2 := blk_cell hbk (j := 2) rfl
          have f2 := blk_fz (j := 2) hbk
          have z3 := blk_cell hbk (j := 3) rfl
          have f3 := blk_fz (j := 3) hbk
          have z4 := blk_cell hbk (j := 4) rfl
          have f4 := blk_fz (j := 4) hbk
          go_wp2_with fail
          (try simp only [Exit.inBlock, Exit.then])
          have ⟨e0, e1, e2, e3, e4⟩ := five_set hbk (.int .u8 0) (.int .u32 0) (.int .u32 0) (.int .u16 0) (.int .u16 0) _ rfl
          refine bodyPost_ret (v := .tuple #[.agg #[.int .u8 0, .int .u32 0, .int .u32 0, .int .u16 0, .int .u16 0], .int .i64 30]) ?_ rfl ⟨((((hF.setCell (.inr (Nat.le_refl _)) _).setCell (.inr (Nat.le_refl _)) _).setCell (.inr (Nat.le_refl _)) _).setCell (.inr (Nat.le_refl _)) _).setCell (.inr (Nat.le_refl _)) _, .inr ⟨FAIL.out (fun k' a' b' p' q' H h => HW.out b' q' H.b H.q h.2.2), rfl⟩⟩
          rw [results_cell_tmp rfl]
          generalize (World.setCell _ _ _) = wz at e0 e1 e2 e3 e4 ⊢
          go_simp
      · have HY := Lib.hid hy
        clear hy
        go_wp2_with fail
        refine (readEnd_any ⟨x3.toArray⟩ (by rw [size_of]; exact Nat.le_trans HZ.out.2.2 hs) _ hV3).mono ?_
        rintro e w4 ⟨hG, hB⟩
        replace hbk := hG.blk hbk (by simp)
        replace hF := hF.trans hG
        clear hG hV3 hc3
        rcases hB with ⟨b, q, hb, hq, hz, rfl⟩ | ⟨hz, rfl⟩
        · have HW := Lib.hid hz
          clear hz
          have z0 := blk_cell hbk (j := 0) rfl
          have f0 := blk_fz (j := 0) hbk
          have z1 := blk_cell hbk (j := 1) rfl
          have f1 := blk_fz (j := 1) hbk
          have z2 := blk_cell hbk (j := 2) rfl
          have f2 := blk_fz (j := 2) hbk
          have z3 := blk_cell hbk (j := 3) rfl
          have f3 := blk_fz (j := 3) hbk
          have z4 := blk_cell hbk (j := 4) rfl
          have f4 := blk_fz (j := 4) hbk
          go_wp2_with fail
          (try simp only [Exit.inBlock, Exit.then])
          have ⟨e0, e1, e2, e3, e4⟩ := five_set hbk (.int .u8 0) (.int .u32 0) (.int .u32 0) (.int .u16 0) (.int .u16 0) _ rfl
          refine bodyPost_ret (v := .tuple #[.agg #[.int .u8 0, .int .u32 0, .int .u32 0, .int .u16 0, .int .u16 0], .int .i64 30]) ?_ rfl ⟨((((hF.setCell (.inr (Nat.le_refl _)) _).setCell (.inr (Nat.le_refl _)) _).setCell (.inr (Nat.le_refl _)) _).setCell (.inr (Nat.le_refl _)) _).setCell (.inr (Nat.le_refl _)) _, .inr ⟨FAIL.out (fun k' a' b' p' q' H h => HY.out a' p' H.a H.p h.2.1), rfl⟩⟩
          rw [results_cell_tmp rfl]
          generalize (World.setCell _ _ _) = wz at e0 e1 e2 e3 e4 ⊢
          go_simp
        · have HW := Lib.hid hz
          clear hz
          have z0 := blk_cell hbk (j := 0) rfl
          have f0 := blk_fz (j := 0) hbk
          have z1 := blk_cell hbk (j := 1) rfl
          have f1 := blk_fz (j := 1) hbk
          have z2 := blk_cell hbk (j := 2) rfl
          have f2 := blk_fz (j := 2) hbk
          have z3 := blk_cell hbk (j := 3) rfl
          have f3 := blk_fz (j := 3) hbk
          have z4 := blk_cell hbk (j := 4) rfl
          have f4 := blk_fz (j := 4) hbk
          go_wp2_with fail
          (try simp only [Exit.inBlock, Exit.then])
          have ⟨e0, e1, e2, e3, e4⟩ := five_set hbk (.int .u8 0) (.int .u32 0) (.int .u32 0) (.int .u16 0) (.int .u16 0) _ rfl
          refine bodyPost_ret (v := .tuple #[.agg #[.int .u8 0, .int .u32 0, .int .u32 0, .int .u16 0, .int .u16 0], .int .i64 30]) ?_ rfl ⟨((((hF.setCell (.inr (Nat.le_refl _)) _).setCell (.inr (Nat.le_refl _)) _).setCell (.inr (Nat.le_refl _)) _).setCell (.inr (Nat.le_refl _)) _).setCell (.inr (Nat.le_refl _)) _, .inr ⟨FAIL.out (fun k' a' b' p' q' H h => HY.out a' p' H.a H.p h.2.1), rfl⟩⟩
          rw [results_cell_tmp rfl]
          generalize (World.setCell _ _ _) = wz at e0 e1 e2 e3 e4 ⊢
          go_simp
    · have HX := Lib.hid hx
      clear hx
      go_wp2_with fail
      refine (readEnd_any ⟨x2.toArray⟩ (by rw [size_of]; exact Nat.le_trans HZ.out.2.1 hs) _ hV2).mono ?_
      rintro e w3 ⟨hG, hA⟩
      replace hbk := hG.blk hbk (by simp)
      replace hc3 := hG.cell hc3 (by simp)
      replace hF := hF.trans hG
      have hV3 := hV2.fr hG
      clear hG hV2 hc2
      rcases hA with ⟨a, p, ha, hp, hy, rfl⟩ | ⟨hy, rfl⟩
      · have HY := Lib.hid hy
        clear hy
        go_wp2_with fail
        refine (readEnd_any ⟨x3.toArray⟩ (by rw [size_of]; exact Nat.le_trans HZ.out.2.2 hs) _ hV3).mono ?_
        rintro e w4 ⟨hG, hB⟩
        replace hbk := hG.blk hbk (by simp)
        replace hF := hF.trans hG
        clear hG hV3 hc3
        rcases hB with ⟨b, q, hb, hq, hz, rfl⟩ | ⟨hz, rfl⟩
        · have HW := Lib.hid hz
          clear hz
          have z0 := blk_cell hbk (j := 0) rfl
          have f0 := blk_fz (j := 0) hbk
          have z1 := blk_cell hbk (j := 1) rfl
          have f1 := blk_fz (j := 1) hbk
          have z2 := blk_cell hbk (j := 2) rfl
          have f2 := blk_fz (j := 2) hbk
          have z3 := blk_cell hbk (j := 3) rfl
          have f3 := blk_fz (j := 3) hbk
          have z4 := blk_cell hbk (j := 4) rfl
          have f4 := blk_fz (j := 4) hbk
          go_wp2_with fail
          (try simp only [Exit.inBlock, Exit.then])
          have ⟨e0, e1, e2, e3, e4⟩ := five_set hbk (.int .u8 0) (.int .u32 0) (.int .u32 0) (.int .u16 0) (.int .u16 0) _ rfl
          refine bodyPost_ret (v := .tuple #[.agg #[.int .u8 0, .int .u32 0, .int .u32 0, .int .u16 0, .int .u16 0], .int .i64 30]) ?_ rfl ⟨((((hF.setCell (.inr (Nat.le_refl _)) _).setCell (.inr (Nat.le_refl _)) _).setCell (.inr (Nat.le_refl _)) _).setCell (.inr (Nat.le_refl _)) _).setCell (.inr (Nat.le_refl _)) _, .inr ⟨FAIL.out (fun k' a' b' p' q' H h => HX.out k' H.k h.1), rfl⟩⟩
          rw [results_cell_tmp rfl]
          generalize (World.setCell _ _ _) = wz at e0 e1 e2 e3 e4 ⊢
          go_simp
        · have HW := Lib.hid hz
          clear hz
          have z0 := blk_cell hbk (j := 0) rfl
          have f0 := blk_fz (j := 0) hbk
          have z1 := blk_cell hbk (j := 1) rfl
          have f1 := blk_fz (j := 1) hbk
          have z2 := blk_cell hbk (j := 2) rfl
          have f2 := blk_fz (j := 2) hbk
          have z3 := blk_cell hbk (j := 3) rfl
          have f3 := blk_fz (j := 3) hbk
          have z4 := blk_cell hbk (j := 4) rfl
          have f4 := blk_fz (j := 4) hbk
          go_wp2_with fail
          (try simp only [Exit.inBlock, Exit.then])
          have ⟨e0, e1, e2, e3, e4⟩ := five_set hbk (.int .u8 0) (.int .u32 0) (.int .u32 0) (.int .u16 0) (.int .u16 0) _ rfl
          refine bodyPost_ret (v := .tuple #[.agg #[.int .u8 0, .int .u32 0, .int .u32 0, .int .u16 0, .int .u16 0], .int .i64 30]) ?_ rfl ⟨((((hF.setCell (.inr (Nat.le_refl _)) _).setCell (.inr (Nat.le_refl _)) _).setCell (.inr (Nat.le_refl _)) _).setCell (.inr (Nat.le_refl _)) _).setCell (.inr (Nat.le_refl _)) _, .inr ⟨FAIL.out (fun k' a' b' p' q' H h => HX.out k' H.k h.1), rfl⟩⟩
          rw [results_cell_tmp rfl]
          generalize (World.setCell _ _ _) = wz at e0 e1 e2 e3 e4 ⊢
          go_simp
      · have HY := Lib.hid hy
        clear hy
        go_wp2_with fail
        refine (readEnd_any ⟨x3.toArray⟩ (by rw [size_of]; exact Nat.le_trans HZ.out.2.2 hs) _ hV3).mono ?_
        rintro e w4 ⟨hG, hB⟩
        replace hbk := hG.blk hbk (by simp)
        replace hF := hF.trans hG
        clear hG hV3 hc3
        rcases hB with ⟨b, q, hb, hq, hz, rfl⟩ | ⟨hz, rfl⟩
        · have HW := Lib.hid hz
          clear hz
          have z0 := blk_cell hbk (j := 0) rfl
          have f0 := blk_fz (j := 0) hbk
          have z1 := blk_cell hbk (j := 1) rfl
          have f1 := blk_fz (j := 1) hbk
          have z2 := blk_cell hbk (j := 2) rfl
          have f2 := blk_fz (j := 2) hbk
          have z3 := blk_cell hbk (j := 3) rfl
          have f3 := blk_fz (j := 3) hbk
          have z4 := blk_cell hbk (j := 4) rfl
          have f4 := blk_fz (j := 4) hbk
          go_wp2_with fail
          (try simp only [Exit.inBlock, Exit.then])
          have ⟨e0, e1, e2, e3, e4⟩ := five_set hbk (.int .u8 0) (.int .u32 0) (.int .u32 0) (.int .u16 0) (.int .u16 0) _ rfl
          refine bodyPost_ret (v := .tuple #[.agg #[.int .u8 0, .int .u32 0, .int .u32 0, .int .u16 0, .int .u16 0], .int .i64 30]) ?_ rfl ⟨((((hF.setCell (.inr (Nat.le_refl _)) _).setCell (.inr (Nat.le_refl _)) _).setCell (.inr (Nat.le_refl _)) _).setCell (.inr (Nat.le_refl _)) _).setCell (.inr (Nat.le_refl _)) _, .inr ⟨FAIL.out (fun k' a' b' p' q' H h => HX.out k' H.k h.1), rfl⟩⟩
          rw [results_cell_tmp rfl]
          generalize (World.setCell _ _ _) = wz at e0 e1 e2 e3 e4 ⊢
          go_simp
        · have HW := Lib.hid hz
          clear hz
          have z0 := blk_cell hbk (j := 0) rfl
          have f0 := blk_fz (j := 0) hbk
          have z1 := blk_cell hbk (j := 1) rfl
          have f1 := blk_fz (j := 1) hbk
          have z2 := blk_cell hbk (j := 2) rfl
          have f2 := blk_fz (j := 2) hbk
          have z3 := blk_cell hbk (j := 3) rfl
          have f3 := blk_fz (j := 3) hbk
          have z4 := blk_cell hbk (j := 4) rfl
          have f4 := blk_fz (j := 4) hbk
          go_wp2_with fail
          (try simp only [Exit.inBlock, Exit.then])
          have ⟨e0, e1, e2, e3, e4⟩ := five_set hbk (.int .u8 0) (.int .u32 0) (.int .u32 0) (.int .u16 0) (.int .u16 0) _ rfl
          refine bodyPost_ret (v := .tuple #[.agg #[.int .u8 0, .int .u32 0, .int .u32 0, .int .u16 0, .int .u16 0], .int .i64 30]) ?_ rfl ⟨((((hF.setCell (.inr (Nat.le_refl _)) _).setCell (.inr (Nat.le_refl _)) _).setCell (.inr (Nat.le_refl _)) _).setCell (.inr (Nat.le_refl _)) _).setCell (.inr (Nat.le_refl _)) _, .inr ⟨FAIL.out (fun k' a' b' p' q' H h => HX.out k' H.k h.1), rfl⟩⟩
          rw [results_cell_tmp rfl]
          generalize (World.setCell _ _ _) = wz at e0 e1 e2 e3 e4 ⊢
          go_simp
end Go.Proofs.YteblkheodjibbaaDoor
