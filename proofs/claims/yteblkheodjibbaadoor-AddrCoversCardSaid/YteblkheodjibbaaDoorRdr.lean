/- ReadRange. -/
import Derived.Test.YteblkheodjibbaaDoorRng
namespace Go.Proofs.YteblkheodjibbaaDoor
open Go.RowKit
set_option linter.unusedVariables false
set_option maxRecDepth 20000

/-- The two numbers of a range's text; one of a text without a sign between. -/
def Two (l x y : List UInt8) : Prop := (45 ∉ l ∧ x = l ∧ y = l) ∨ (l = x ++ 45 :: y ∧ 45 ∉ x)
theorem two_of {l x y : List UInt8} (h : Two l x y) {a b : Nat} (hs : l ≠ [42]) (e : l = rtext a b) : x = dec a ∧ y = dec b := by
  have nd : ¬ Dg 45 := by decide
  unfold rtext at e
  by_cases h1 : a = 0 ∧ b = 65535
  · rw [if_pos h1] at e; exact absurd e hs
  · rw [if_neg h1] at e
    by_cases h2 : a = b
    · rw [if_pos h2] at e
      subst h2
      rcases h with ⟨_, rfl, rfl⟩ | ⟨h3, _⟩
      · exact ⟨e, e⟩
      · exact absurd (by rw [← e, h3]; simp) (dec_free nd a)
    · rw [if_neg h2] at e
      rcases h with ⟨h3, _⟩ | ⟨h3, h4⟩
      · exact absurd (by rw [e]; simp) h3
      · exact first_unique h4 (dec_free nd a) (h3.symm.trans e)

def RngP (W : World) (l : List UInt8) (e : Ending) (w' : World) : Prop :=
  Fr [] W w' ∧ ((∃ a b, a ≤ b ∧ b < 65536 ∧ l = rtext a b ∧ e = .returned (.tuple #[.agg #[.int .u16 a, .int .u16 b], .int .i64 0])) ∨ ((∀ a b, a ≤ b → b < 65536 → l ≠ rtext a b) ∧ e = .returned (.tuple #[.agg #[.int .u16 0, .int .u16 0], .int .i64 30])))
theorem rangeText_some (a b : Nat) (ha : a < 65536) (hb : b < 65536) (W : World) (hV : VV W) : Calls Tryd.prog 13 #[.agg #[.int .u16 a, .int .u16 b]] W fun e w' => Fr [] W w' ∧ ∃ (t : ByteArray) (k : Int), e = .returned (.tuple #[.string t, .int .i64 k]) := by
  by_cases h : a ≤ b
  · exact (rangeText_yes a b h hb W hV).mono fun e w' h => ⟨h.2, _, _, h.1⟩
  · exact (rangeText_no a b h W).mono fun e w' h => ⟨h.2, _, _, h.1⟩

set_option maxHeartbeats 8000000 in
theorem readRange_any (s : ByteArray) (hs : s.size ≤ 281474976710656) (W : World) (hV : VV W) : Calls Tryd.prog 14 #[.string s] W (RngP W s.data.toList) := by
  have hF0 : Fr [] W (W.alloc (.cells #[.int .u16 0, .int .u16 0] 25)) := (Fr.refl _ _).alloc _
  have hb0 := blk_new W #[.int .u16 0, .int .u16 0] 25
  by_cases hst : s = ⟨#[42]⟩
  · subst hst
    go_enter Tryd.func14, Tryd.ntmps14
    go_wp2_with fail
    (try simp only [Exit.inBlock, Exit.then])
    refine bodyPost_ret (v := .tuple #[.agg #[.int .u16 0, .int .u16 65535], .int .i64 0]) ?_ rfl ⟨(Fr.refl _ _).alloc _, .inl ⟨0, 65535, by decide, by decide, rfl, rfl⟩⟩
    rw [results_cell_tmp rfl]
    go_simp
  · have hne : (s.toList == [42]) = false := by
      rw [beq_eq_false_iff_ne, Lib.toList_data]
      intro e
      exact hst (str_of e)
    have hsl : s.data.toList ≠ [42] := fun e => hst (str_of e)
    have HSL := Lib.hid hsl
    clear hst hsl
    go_enter Tryd.func14, Tryd.ntmps14
    go_wp2_with fail
    generalize W.alloc (.cells #[.int .u16 0, .int .u16 0] 25) = w0 at hF0 hb0 ⊢
    refine (cut_any s 45 hs _).mono ?_
    rintro e w1 ⟨hF1, x, y, b, hS, rfl⟩
    have hbk := hF1.blk hb0 (by simp)
    have hF := hF0.trans hF1
    have hV1 := hV.fr hF
    clear hF0 hF1 hb0 hV
    have hSL := hS.len
    have hsx : (⟨x.toArray⟩ : ByteArray).size ≤ 281474976710656 := by rw [size_of]; rw [size_of] at hs; exact Nat.le_trans hSL.1 hs
    have hsy : (⟨y.toArray⟩ : ByteArray).size ≤ 281474976710656 := by rw [size_of]; rw [size_of] at hs; exact Nat.le_trans hSL.2 hs
    rcases hS with ⟨rfl, h1, h2⟩ | ⟨rfl, h1, rfl, rfl⟩
    · have hT : Two s.data.toList x y := .inr ⟨h1, h2⟩
      have HT := Lib.hid hT
      have HSX := Lib.hid hsx
      have HSY := Lib.hid hsy
      clear h1 h2 hSL hsx hsy hT
      go_wp2_with fail
      refine (num16_any ⟨x.toArray⟩ HSX.out _ hV1).mono ?_
      rintro e w2 ⟨hG, hN⟩
      replace hbk := hG.blk hbk (by simp)
      replace hF := hF.trans hG
      have hV2 := hV1.fr hG
      clear hG hV1
      rcases hN with ⟨u, hu, hx, rfl⟩ | ⟨hx, rfl⟩
      · have HX := Lib.hid hx
        clear hx
        go_wp2_with fail
        refine (num16_any ⟨y.toArray⟩ HSY.out _ hV2).mono ?_
        rintro e w3 ⟨hG, hN⟩
        replace hbk := hG.blk hbk (by simp)
        replace hF := hF.trans hG
        have hV3 := hV2.fr hG
        clear hG hV2
        rcases hN with ⟨v, hv, hy, rfl⟩ | ⟨hy, rfl⟩
        · have HY := Lib.hid hy
          clear hy
          have hG : Fr [] w3 (w3.alloc (.cells #[.int .u16 u, .int .u16 v] 25)) := (Fr.refl _ _).alloc _
          have hc0 : (w3.alloc (.cells #[.int .u16 u, .int .u16 v] 25)).cell? ⟨w3.heap.size, 0, none⟩ = some (.int .u16 u) := new_cell _ _ _ 0 _ rfl
          have hc1 : (w3.alloc (.cells #[.int .u16 u, .int .u16 v] 25)).cell? ⟨w3.heap.size, 1, none⟩ = some (.int .u16 v) := new_cell _ _ _ 1 _ rfl
          replace hbk := hG.blk hbk (by simp)
          replace hF := hF.trans hG
          have hV4 := hV3.fr hG
          clear hG hV3
          go_wp2_with fail
          generalize w3.alloc (.cells #[.int .u16 u, .int .u16 v] 25) = w4 at hc0 hc1 hbk hF hV4 ⊢
          by_cases huv : u ≤ v
          · refine (rangeText_yes u v huv hv _ hV4).mono ?_
            rintro e w5 ⟨rfl, hG⟩
            replace hbk := hG.blk hbk (by simp)
            replace hF := hF.trans hG
            replace hc0 := hG.cell hc0 (by simp)
            replace hc1 := hG.cell hc1 (by simp)
            clear hG hV4
            have z0 := blk_cell hbk (j := 0) rfl
            have z1 := blk_cell hbk (j := 1) rfl
            have f0 := blk_fz (j := 0) hbk
            have f1 := blk_fz (j := 1) hbk
            by_cases he : (⟨(rtext u v).toArray⟩ : ByteArray) = s
            · have hq : (rtext u v == s.toList) = true := by rw [beq_iff_eq, Lib.toList_data, ← he]
              go_wp2_with fail
              (try simp only [Exit.inBlock, Exit.then])
              have ⟨e0, e1⟩ := two_set hbk (.int .u16 u) (.int .u16 v)
              refine bodyPost_ret (v := .tuple #[.agg #[.int .u16 u, .int .u16 v], .int .i64 0]) ?_ rfl ⟨(hF.setCell (.inr (Nat.le_refl _)) _).setCell (.inr (Nat.le_refl _)) _, .inl ⟨u, v, huv, hv, by rw [← he], rfl⟩⟩
              rw [results_cell_tmp rfl]
              generalize (World.setCell _ _ _) = wz at e0 e1 ⊢
              go_simp
            · have hq := neq_str he
              go_wp2_with fail
              (try simp only [Exit.inBlock, Exit.then])
              have ⟨e0, e1⟩ := two_set hbk (.int .u16 0) (.int .u16 0)
              refine bodyPost_ret (v := .tuple #[.agg #[.int .u16 0, .int .u16 0], .int .i64 30]) ?_ rfl ⟨(hF.setCell (.inr (Nat.le_refl _)) _).setCell (.inr (Nat.le_refl _)) _, .inr ⟨fun a b hab hb hs => ?_, rfl⟩⟩
              · rw [results_cell_tmp rfl]
                generalize (World.setCell _ _ _) = wz at e0 e1 ⊢
                go_simp
              · have hh := two_of HT.out HSL.out hs
                have ha := dec_inj (by omega) (by omega) (HX.out.symm.trans hh.1)
                have hb2 := dec_inj (by omega) (by omega) (HY.out.symm.trans hh.2)
                subst ha hb2
                exact he (by rw [← hs])
          · refine (rangeText_no u v huv _).mono ?_
            rintro e w5 ⟨rfl, hG⟩
            replace hbk := hG.blk hbk (by simp)
            replace hF := hF.trans hG
            replace hc0 := hG.cell hc0 (by simp)
            replace hc1 := hG.cell hc1 (by simp)
            clear hG hV4
            have z0 := blk_cell hbk (j := 0) rfl
            have z1 := blk_cell hbk (j := 1) rfl
            have f0 := blk_fz (j := 0) hbk
            have f1 := blk_fz (j := 1) hbk
            go_wp2_with fail
            (try simp only [Exit.inBlock, Exit.then])
            have ⟨e0, e1⟩ := two_set hbk (.int .u16 0) (.int .u16 0)
            refine bodyPost_ret (v := .tuple #[.agg #[.int .u16 0, .int .u16 0], .int .i64 30]) ?_ rfl ⟨(hF.setCell (.inr (Nat.le_refl _)) _).setCell (.inr (Nat.le_refl _)) _, .inr ⟨fun a b hab hb hs => ?_, rfl⟩⟩
            · rw [results_cell_tmp rfl]
              generalize (World.setCell _ _ _) = wz at e0 e1 ⊢
              go_simp
            · have hh := two_of HT.out HSL.out hs
              have ha := dec_inj (by omega) (by omega) (HX.out.symm.trans hh.1)
              have hb2 := dec_inj (by omega) (by omega) (HY.out.symm.trans hh.2)
              subst ha hb2
              exact huv hab
        · have HY := Lib.hid hy
          clear hy
          have hG : Fr [] w3 (w3.alloc (.cells #[.int .u16 u, .int .u16 0] 25)) := (Fr.refl _ _).alloc _
          have hc0 : (w3.alloc (.cells #[.int .u16 u, .int .u16 0] 25)).cell? ⟨w3.heap.size, 0, none⟩ = some (.int .u16 u) := new_cell _ _ _ 0 _ rfl
          have hc1 : (w3.alloc (.cells #[.int .u16 u, .int .u16 0] 25)).cell? ⟨w3.heap.size, 1, none⟩ = some (.int .u16 0) := new_cell _ _ _ 1 _ rfl
          replace hbk := hG.blk hbk (by simp)
          replace hF := hF.trans hG
          have hV4 := hV3.fr hG
          clear hG hV3
          go_wp2_with fail
          generalize w3.alloc (.cells #[.int .u16 u, .int .u16 0] 25) = w4 at hc0 hc1 hbk hF hV4 ⊢
          refine (show Calls _ _ #[.agg #[.int .u16 u, .int .u16 0]] _ _ from rangeText_some u 0 (by omega) (by omega) _ hV4).mono ?_
          rintro e w5 ⟨hG, t, k, rfl⟩
          replace hbk := hG.blk hbk (by simp)
          replace hF := hF.trans hG
          clear hG hV4 hc0 hc1
          have z0 := blk_cell hbk (j := 0) rfl
          have z1 := blk_cell hbk (j := 1) rfl
          have f0 := blk_fz (j := 0) hbk
          have f1 := blk_fz (j := 1) hbk
          go_wp2_with fail
          (try simp only [Exit.inBlock, Exit.then])
          have ⟨e0, e1⟩ := two_set hbk (.int .u16 0) (.int .u16 0)
          refine bodyPost_ret (v := .tuple #[.agg #[.int .u16 0, .int .u16 0], .int .i64 30]) ?_ rfl ⟨(hF.setCell (.inr (Nat.le_refl _)) _).setCell (.inr (Nat.le_refl _)) _, .inr ⟨fun a b hab hb hs => HY.out b hb (two_of HT.out HSL.out hs).2, rfl⟩⟩
          rw [results_cell_tmp rfl]
          generalize (World.setCell _ _ _) = wz at e0 e1 ⊢
          go_simp
      · have HX := Lib.hid hx
        clear hx
        go_wp2_with fail
        refine (num16_any ⟨y.toArray⟩ HSY.out _ hV2).mono ?_
        rintro e w3 ⟨hG, hN⟩
        replace hbk := hG.blk hbk (by simp)
        replace hF := hF.trans hG
        have hV3 := hV2.fr hG
        clear hG hV2
        rcases hN with ⟨v, hv, hy, rfl⟩ | ⟨hy, rfl⟩
        · have HY := Lib.hid hy
          clear hy
          have hG : Fr [] w3 (w3.alloc (.cells #[.int .u16 0, .int .u16 v] 25)) := (Fr.refl _ _).alloc _
          have hc0 : (w3.alloc (.cells #[.int .u16 0, .int .u16 v] 25)).cell? ⟨w3.heap.size, 0, none⟩ = some (.int .u16 0) := new_cell _ _ _ 0 _ rfl
          have hc1 : (w3.alloc (.cells #[.int .u16 0, .int .u16 v] 25)).cell? ⟨w3.heap.size, 1, none⟩ = some (.int .u16 v) := new_cell _ _ _ 1 _ rfl
          replace hbk := hG.blk hbk (by simp)
          replace hF := hF.trans hG
          have hV4 := hV3.fr hG
          clear hG hV3
          go_wp2_with fail
          generalize w3.alloc (.cells #[.int .u16 0, .int .u16 v] 25) = w4 at hc0 hc1 hbk hF hV4 ⊢
          refine (show Calls _ _ #[.agg #[.int .u16 0, .int .u16 v]] _ _ from rangeText_some 0 v (by omega) (by omega) _ hV4).mono ?_
          rintro e w5 ⟨hG, t, k, rfl⟩
          replace hbk := hG.blk hbk (by simp)
          replace hF := hF.trans hG
          clear hG hV4 hc0 hc1
          have z0 := blk_cell hbk (j := 0) rfl
          have z1 := blk_cell hbk (j := 1) rfl
          have f0 := blk_fz (j := 0) hbk
          have f1 := blk_fz (j := 1) hbk
          go_wp2_with fail
          (try simp only [Exit.inBlock, Exit.then])
          have ⟨e0, e1⟩ := two_set hbk (.int .u16 0) (.int .u16 0)
          refine bodyPost_ret (v := .tuple #[.agg #[.int .u16 0, .int .u16 0], .int .i64 30]) ?_ rfl ⟨(hF.setCell (.inr (Nat.le_refl _)) _).setCell (.inr (Nat.le_refl _)) _, .inr ⟨fun a b hab hb hs => HX.out a (by omega) (two_of HT.out HSL.out hs).1, rfl⟩⟩
          rw [results_cell_tmp rfl]
          generalize (World.setCell _ _ _) = wz at e0 e1 ⊢
          go_simp
        · have HY := Lib.hid hy
          clear hy
          have hG : Fr [] w3 (w3.alloc (.cells #[.int .u16 0, .int .u16 0] 25)) := (Fr.refl _ _).alloc _
          have hc0 : (w3.alloc (.cells #[.int .u16 0, .int .u16 0] 25)).cell? ⟨w3.heap.size, 0, none⟩ = some (.int .u16 0) := new_cell _ _ _ 0 _ rfl
          have hc1 : (w3.alloc (.cells #[.int .u16 0, .int .u16 0] 25)).cell? ⟨w3.heap.size, 1, none⟩ = some (.int .u16 0) := new_cell _ _ _ 1 _ rfl
          replace hbk := hG.blk hbk (by simp)
          replace hF := hF.trans hG
          have hV4 := hV3.fr hG
          clear hG hV3
          go_wp2_with fail
          generalize w3.alloc (.cells #[.int .u16 0, .int .u16 0] 25) = w4 at hc0 hc1 hbk hF hV4 ⊢
          refine (show Calls _ _ #[.agg #[.int .u16 0, .int .u16 0]] _ _ from rangeText_some 0 0 (by omega) (by omega) _ hV4).mono ?_
          rintro e w5 ⟨hG, t, k, rfl⟩
          replace hbk := hG.blk hbk (by simp)
          replace hF := hF.trans hG
          clear hG hV4 hc0 hc1
          have z0 := blk_cell hbk (j := 0) rfl
          have z1 := blk_cell hbk (j := 1) rfl
          have f0 := blk_fz (j := 0) hbk
          have f1 := blk_fz (j := 1) hbk
          go_wp2_with fail
          (try simp only [Exit.inBlock, Exit.then])
          have ⟨e0, e1⟩ := two_set hbk (.int .u16 0) (.int .u16 0)
          refine bodyPost_ret (v := .tuple #[.agg #[.int .u16 0, .int .u16 0], .int .i64 30]) ?_ rfl ⟨(hF.setCell (.inr (Nat.le_refl _)) _).setCell (.inr (Nat.le_refl _)) _, .inr ⟨fun a b hab hb hs => HX.out a (by omega) (two_of HT.out HSL.out hs).1, rfl⟩⟩
          rw [results_cell_tmp rfl]
          generalize (World.setCell _ _ _) = wz at e0 e1 ⊢
          go_simp
    · have hT : Two s.data.toList s.data.toList s.data.toList := .inl ⟨h1, rfl, rfl⟩
      have HT := Lib.hid hT
      have HSX := Lib.hid hsx
      have HSY := Lib.hid hsx
      clear h1 hSL hsx hsy hT
      go_wp2_with fail
      refine (num16_any ⟨s.data.toList.toArray⟩ HSX.out _ hV1).mono ?_
      rintro e w2 ⟨hG, hN⟩
      replace hbk := hG.blk hbk (by simp)
      replace hF := hF.trans hG
      have hV2 := hV1.fr hG
      clear hG hV1
      rcases hN with ⟨u, hu, hx, rfl⟩ | ⟨hx, rfl⟩
      · have HX := Lib.hid hx
        clear hx
        go_wp2_with fail
        refine (num16_any ⟨s.data.toList.toArray⟩ HSY.out _ hV2).mono ?_
        rintro e w3 ⟨hG, hN⟩
        replace hbk := hG.blk hbk (by simp)
        replace hF := hF.trans hG
        have hV3 := hV2.fr hG
        clear hG hV2
        rcases hN with ⟨v, hv, hy, rfl⟩ | ⟨hy, rfl⟩
        · have HY := Lib.hid hy
          clear hy
          have hG : Fr [] w3 (w3.alloc (.cells #[.int .u16 u, .int .u16 v] 25)) := (Fr.refl _ _).alloc _
          have hc0 : (w3.alloc (.cells #[.int .u16 u, .int .u16 v] 25)).cell? ⟨w3.heap.size, 0, none⟩ = some (.int .u16 u) := new_cell _ _ _ 0 _ rfl
          have hc1 : (w3.alloc (.cells #[.int .u16 u, .int .u16 v] 25)).cell? ⟨w3.heap.size, 1, none⟩ = some (.int .u16 v) := new_cell _ _ _ 1 _ rfl
          replace hbk := hG.blk hbk (by simp)
          replace hF := hF.trans hG
          have hV4 := hV3.fr hG
          clear hG hV3
          go_wp2_with fail
          generalize w3.alloc (.cells #[.int .u16 u, .int .u16 v] 25) = w4 at hc0 hc1 hbk hF hV4 ⊢
          by_cases huv : u ≤ v
          · refine (rangeText_yes u v huv hv _ hV4).mono ?_
            rintro e w5 ⟨rfl, hG⟩
            replace hbk := hG.blk hbk (by simp)
            replace hF := hF.trans hG
            replace hc0 := hG.cell hc0 (by simp)
            replace hc1 := hG.cell hc1 (by simp)
            clear hG hV4
            have z0 := blk_cell hbk (j := 0) rfl
            have z1 := blk_cell hbk (j := 1) rfl
            have f0 := blk_fz (j := 0) hbk
            have f1 := blk_fz (j := 1) hbk
            by_cases he : (⟨(rtext u v).toArray⟩ : ByteArray) = s
            · have hq : (rtext u v == s.toList) = true := by rw [beq_iff_eq, Lib.toList_data, ← he]
              go_wp2_with fail
              (try simp only [Exit.inBlock, Exit.then])
              have ⟨e0, e1⟩ := two_set hbk (.int .u16 u) (.int .u16 v)
              refine bodyPost_ret (v := .tuple #[.agg #[.int .u16 u, .int .u16 v], .int .i64 0]) ?_ rfl ⟨(hF.setCell (.inr (Nat.le_refl _)) _).setCell (.inr (Nat.le_refl _)) _, .inl ⟨u, v, huv, hv, by rw [← he], rfl⟩⟩
              rw [results_cell_tmp rfl]
              generalize (World.setCell _ _ _) = wz at e0 e1 ⊢
              go_simp
            · have hq := neq_str he
              go_wp2_with fail
              (try simp only [Exit.inBlock, Exit.then])
              have ⟨e0, e1⟩ := two_set hbk (.int .u16 0) (.int .u16 0)
              refine bodyPost_ret (v := .tuple #[.agg #[.int .u16 0, .int .u16 0], .int .i64 30]) ?_ rfl ⟨(hF.setCell (.inr (Nat.le_refl _)) _).setCell (.inr (Nat.le_refl _)) _, .inr ⟨fun a b hab hb hs => ?_, rfl⟩⟩
              · rw [results_cell_tmp rfl]
                generalize (World.setCell _ _ _) = wz at e0 e1 ⊢
                go_simp
              · have hh := two_of HT.out HSL.out hs
                have ha := dec_inj (by omega) (by omega) (HX.out.symm.trans hh.1)
                have hb2 := dec_inj (by omega) (by omega) (HY.out.symm.trans hh.2)
                subst ha hb2
                exact he (by rw [← hs])
          · refine (rangeText_no u v huv _).mono ?_
            rintro e w5 ⟨rfl, hG⟩
            replace hbk := hG.blk hbk (by simp)
            replace hF := hF.trans hG
            replace hc0 := hG.cell hc0 (by simp)
            replace hc1 := hG.cell hc1 (by simp)
            clear hG hV4
            have z0 := blk_cell hbk (j := 0) rfl
            have z1 := blk_cell hbk (j := 1) rfl
            have f0 := blk_fz (j := 0) hbk
            have f1 := blk_fz (j := 1) hbk
            go_wp2_with fail
            (try simp only [Exit.inBlock, Exit.then])
            have ⟨e0, e1⟩ := two_set hbk (.int .u16 0) (.int .u16 0)
            refine bodyPost_ret (v := .tuple #[.agg #[.int .u16 0, .int .u16 0], .int .i64 30]) ?_ rfl ⟨(hF.setCell (.inr (Nat.le_refl _)) _).setCell (.inr (Nat.le_refl _)) _, .inr ⟨fun a b hab hb hs => ?_, rfl⟩⟩
            · rw [results_cell_tmp rfl]
              generalize (World.setCell _ _ _) = wz at e0 e1 ⊢
              go_simp
            · have hh := two_of HT.out HSL.out hs
              have ha := dec_inj (by omega) (by omega) (HX.out.symm.trans hh.1)
              have hb2 := dec_inj (by omega) (by omega) (HY.out.symm.trans hh.2)
              subst ha hb2
              exact huv hab
        · have HY := Lib.hid hy
          clear hy
          have hG : Fr [] w3 (w3.alloc (.cells #[.int .u16 u, .int .u16 0] 25)) := (Fr.refl _ _).alloc _
          have hc0 : (w3.alloc (.cells #[.int .u16 u, .int .u16 0] 25)).cell? ⟨w3.heap.size, 0, none⟩ = some (.int .u16 u) := new_cell _ _ _ 0 _ rfl
          have hc1 : (w3.alloc (.cells #[.int .u16 u, .int .u16 0] 25)).cell? ⟨w3.heap.size, 1, none⟩ = some (.int .u16 0) := new_cell _ _ _ 1 _ rfl
          replace hbk := hG.blk hbk (by simp)
          replace hF := hF.trans hG
          have hV4 := hV3.fr hG
          clear hG hV3
          go_wp2_with fail
          generalize w3.alloc (.cells #[.int .u16 u, .int .u16 0] 25) = w4 at hc0 hc1 hbk hF hV4 ⊢
          refine (show Calls _ _ #[.agg #[.int .u16 u, .int .u16 0]] _ _ from rangeText_some u 0 (by omega) (by omega) _ hV4).mono ?_
          rintro e w5 ⟨hG, t, k, rfl⟩
          replace hbk := hG.blk hbk (by simp)
          replace hF := hF.trans hG
          clear hG hV4 hc0 hc1
          have z0 := blk_cell hbk (j := 0) rfl
          have z1 := blk_cell hbk (j := 1) rfl
          have f0 := blk_fz (j := 0) hbk
          have f1 := blk_fz (j := 1) hbk
          go_wp2_with fail
          (try simp only [Exit.inBlock, Exit.then])
          have ⟨e0, e1⟩ := two_set hbk (.int .u16 0) (.int .u16 0)
          refine bodyPost_ret (v := .tuple #[.agg #[.int .u16 0, .int .u16 0], .int .i64 30]) ?_ rfl ⟨(hF.setCell (.inr (Nat.le_refl _)) _).setCell (.inr (Nat.le_refl _)) _, .inr ⟨fun a b hab hb hs => HY.out b hb (two_of HT.out HSL.out hs).2, rfl⟩⟩
          rw [results_cell_tmp rfl]
          generalize (World.setCell _ _ _) = wz at e0 e1 ⊢
          go_simp
      · have HX := Lib.hid hx
        clear hx
        go_wp2_with fail
        refine (num16_any ⟨s.data.toList.toArray⟩ HSY.out _ hV2).mono ?_
        rintro e w3 ⟨hG, hN⟩
        replace hbk := hG.blk hbk (by simp)
        replace hF := hF.trans hG
        have hV3 := hV2.fr hG
        clear hG hV2
        rcases hN with ⟨v, hv, hy, rfl⟩ | ⟨hy, rfl⟩
        · have HY := Lib.hid hy
          clear hy
          have hG : Fr [] w3 (w3.alloc (.cells #[.int .u16 0, .int .u16 v] 25)) := (Fr.refl _ _).alloc _
          have hc0 : (w3.alloc (.cells #[.int .u16 0, .int .u16 v] 25)).cell? ⟨w3.heap.size, 0, none⟩ = some (.int .u16 0) := new_cell _ _ _ 0 _ rfl
          have hc1 : (w3.alloc (.cells #[.int .u16 0, .int .u16 v] 25)).cell? ⟨w3.heap.size, 1, none⟩ = some (.int .u16 v) := new_cell _ _ _ 1 _ rfl
          replace hbk := hG.blk hbk (by simp)
          replace hF := hF.trans hG
          have hV4 := hV3.fr hG
          clear hG hV3
          go_wp2_with fail
          generalize w3.alloc (.cells #[.int .u16 0, .int .u16 v] 25) = w4 at hc0 hc1 hbk hF hV4 ⊢
          refine (show Calls _ _ #[.agg #[.int .u16 0, .int .u16 v]] _ _ from rangeText_some 0 v (by omega) (by omega) _ hV4).mono ?_
          rintro e w5 ⟨hG, t, k, rfl⟩
          replace hbk := hG.blk hbk (by simp)
          replace hF := hF.trans hG
          clear hG hV4 hc0 hc1
          have z0 := blk_cell hbk (j := 0) rfl
          have z1 := blk_cell hbk (j := 1) rfl
          have f0 := blk_fz (j := 0) hbk
          have f1 := blk_fz (j := 1) hbk
          go_wp2_with fail
          (try simp only [Exit.inBlock, Exit.then])
          have ⟨e0, e1⟩ := two_set hbk (.int .u16 0) (.int .u16 0)
          refine bodyPost_ret (v := .tuple #[.agg #[.int .u16 0, .int .u16 0], .int .i64 30]) ?_ rfl ⟨(hF.setCell (.inr (Nat.le_refl _)) _).setCell (.inr (Nat.le_refl _)) _, .inr ⟨fun a b hab hb hs => HX.out a (by omega) (two_of HT.out HSL.out hs).1, rfl⟩⟩
          rw [results_cell_tmp rfl]
          generalize (World.setCell _ _ _) = wz at e0 e1 ⊢
          go_simp
        · have HY := Lib.hid hy
          clear hy
          have hG : Fr [] w3 (w3.alloc (.cells #[.int .u16 0, .int .u16 0] 25)) := (Fr.refl _ _).alloc _
          have hc0 : (w3.alloc (.cells #[.int .u16 0, .int .u16 0] 25)).cell? ⟨w3.heap.size, 0, none⟩ = some (.int .u16 0) := new_cell _ _ _ 0 _ rfl
          have hc1 : (w3.alloc (.cells #[.int .u16 0, .int .u16 0] 25)).cell? ⟨w3.heap.size, 1, none⟩ = some (.int .u16 0) := new_cell _ _ _ 1 _ rfl
          replace hbk := hG.blk hbk (by simp)
          replace hF := hF.trans hG
          have hV4 := hV3.fr hG
          clear hG hV3
          go_wp2_with fail
          generalize w3.alloc (.cells #[.int .u16 0, .int .u16 0] 25) = w4 at hc0 hc1 hbk hF hV4 ⊢
          refine (show Calls _ _ #[.agg #[.int .u16 0, .int .u16 0]] _ _ from rangeText_some 0 0 (by omega) (by omega) _ hV4).mono ?_
          rintro e w5 ⟨hG, t, k, rfl⟩
          replace hbk := hG.blk hbk (by simp)
          replace hF := hF.trans hG
          clear hG hV4 hc0 hc1
          have z0 := blk_cell hbk (j := 0) rfl
          have z1 := blk_cell hbk (j := 1) rfl
          have f0 := blk_fz (j := 0) hbk
          have f1 := blk_fz (j := 1) hbk
          go_wp2_with fail
          (try simp only [Exit.inBlock, Exit.then])
          have ⟨e0, e1⟩ := two_set hbk (.int .u16 0) (.int .u16 0)
          refine bodyPost_ret (v := .tuple #[.agg #[.int .u16 0, .int .u16 0], .int .i64 30]) ?_ rfl ⟨(hF.setCell (.inr (Nat.le_refl _)) _).setCell (.inr (Nat.le_refl _)) _, .inr ⟨fun a b hab hb hs => HX.out a (by omega) (two_of HT.out HSL.out hs).1, rfl⟩⟩
          rw [results_cell_tmp rfl]
          generalize (World.setCell _ _ _) = wz at e0 e1 ⊢
          go_simp
end Go.Proofs.YteblkheodjibbaaDoor
