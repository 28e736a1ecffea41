/- AddrWrong: what is no right prefix, and no right range, has nothing. -/
import Derived.Test.YticopkegbiemjabDoorAwk
import Derived.Test.YticopkegbiemjabDoorRng
import Derived.StillTailTactics
namespace Go.Proofs.YticopkegbiemjabDoor
open Go.RowKit
set_option linter.unusedVariables false
set_option maxRecDepth 100000

/-- One bit more than a right prefix has. -/
theorem bad_bit (a m k : Nat) (hk : k < 32 - m) : ¬ PR (pcut a m ||| 2 ^ k) m := by
  intro h
  have hlt : (2 : Nat) ^ k < 2 ^ (32 - m) := Nat.pow_lt_pow_right (by decide) hk
  have e := Nat.two_pow_add_eq_or_of_lt (i := 32 - m) (b := 2 ^ k) hlt (a / psize m)
  have hc : pcut a m = 2 ^ (32 - m) * (a / psize m) := by unfold pcut psize; rw [Nat.mul_comm]
  have h2 := h.2
  rw [hc, ← e] at h2
  unfold psize at h2
  rw [Nat.mul_add_mod, Nat.mod_eq_of_lt hlt] at h2
  have := Nat.pow_pos (n := k) (show 0 < 2 by decide)
  omega

set_option maxHeartbeats 4000000 in
theorem wrong_any (a n bit fr to_ : Nat) (ha : a < 4294967296) (hn : n < 256) (hbit : bit < 256) (hfr : fr < 65536) (hto : to_ < 65536) (w : World) (hV : VV w) :
    Calls Tryd.prog 5 #[.int .u32 a, .int .u8 n, .int .u8 bit, .int .u16 fr, .int .u16 to_] w fun e w' => e = .returned (.bool true) ∧ Fr [] w w' := by
  obtain ⟨m, hm⟩ : ∃ m : Nat, m = n % 32 := ⟨_, rfl⟩
  have hm1 : (n : Int) % 32 = (m : Int) := by omega
  have hm2 : m < 32 := by omega
  have HM := Lib.hid hm
  clear hm
  go_enter Tryd.func5, Tryd.ntmps5
  go_wp2_with fail
  refine (awake_any _ hV).mono ?_
  rintro e w1 ⟨rfl, hF⟩
  have hV1 := hV.fr hF
  obtain ⟨g, hg⟩ : ∃ g, g = pcut a m := ⟨_, rfl⟩
  have hgl : g < 4294967296 := by rw [hg]; exact Nat.lt_of_le_of_lt (pcut_le a m) ha
  have hC : ∀ W, Calls Tryd.prog 17 #[.int .u32 a, .int .u8 m] W fun e w' => e = .returned (.tuple #[.agg #[.int .u32 g, .int .u8 m], .int .i64 0]) ∧ Fr [] W w' := fun W => by rw [hg]; exact cut_yes a m ha (by omega) W
  have HG := Lib.hid hg
  clear hg
  go_wp2_with fail
  refine (hC _).mono ?_
  rintro e w2 ⟨rfl, hF2⟩
  replace hF := hF.trans hF2
  clear hF2 hC hV1
  have hs : (w2.alloc (.cells #[.int .u32 g, .int .u8 m] 35)).heap.size = w2.heap.size + 1 := by simp
  have G1 := pc_new w2 g m 35
  have B1 := pc_new (w2.alloc (.cells #[.int .u32 g, .int .u8 m] 35)) g m 35
  rw [hs] at B1
  replace G1 := G1.fr ((Fr.refl [] _).alloc (.cells #[.int .u32 g, .int .u8 m] 35)) (by simp)
  go_wp2_with fail
  generalize hw3 : (w2.alloc (.cells #[.int .u32 g, .int .u8 m] 35)).alloc (.cells #[.int .u32 g, .int .u8 m] 35) = w3 at G1 B1 ⊢
  have hF3 : Fr [] w w3 := by rw [← hw3]; exact (hF.alloc _).alloc _
  have hbk : w3.heap[w2.heap.size + 1]? = some (.cells #[.int .u32 g, .int .u8 m] 35 (0, 0)) := by
    rw [← hw3, ← hs]; exact last_block _ _
  have hlo : w.heap.size ≤ w2.heap.size := hF.size
  generalize hgb : w2.heap.size + 1 = gb at B1 hbk ⊢
  have hgb2 : w2.heap.size ≠ gb := by omega
  have hgb3 : w.heap.size ≤ gb := by omega
  generalize w2.heap.size = gg at G1 hgb2 ⊢
  clear hw3 hgb hlo hs
  obtain ⟨k, hk⟩ : ∃ k : Nat, k = bit % (32 - m) := ⟨_, rfl⟩
  have hk2 : k < 32 - m := by rw [hk]; exact Nat.mod_lt _ (by omega)
  have hk1 : (bit : Int) % (32 - (m : Int)) = (k : Int) := by
    have e : (32 : Int) - m = ((32 - m : Nat) : Int) := by omega
    rw [hk, e]; rfl
  have hwr : IntKind.u8.wrap (32 - (m : Int)) = 32 - (m : Int) := by rw [IntKind.wrap_u8]; omega
  have hne : ¬ (32 - (m : Int)) = 0 := by omega
  have hlt0 : ¬ (32 : Int) - m < 0 := by omega
  have ht1 : (n : Int).tmod 32 = (m : Int) := by rw [Int.tmod_eq_emod_of_nonneg (by omega)]; exact hm1
  have ht2 : (bit : Int).tmod (32 - (m : Int)) = (k : Int) := by rw [Int.tmod_eq_emod_of_nonneg (by omega)]; exact hk1
  have hnb : ((32 - (m : Int)) == 0) = false := beq_eq_false_iff_ne.2 hne
  have HK := Lib.hid hk
  clear hk
  refine wp_region_still_tail 9 (by kernel_rfl) (by kernel_rfl) ?_
  have hF4 : Fr [] w { w3 with drawn := w3.drawn + 1 } := hF3.drew
  have hG4 : PC { w3 with drawn := w3.drawn + 1 } gg g m := G1.fr ((Fr.refl [] w3).drew) (by simp)
  have hB4 : PC { w3 with drawn := w3.drawn + 1 } gb g m := B1.fr ((Fr.refl [] w3).drew) (by simp)
  have hbk4 : ({ w3 with drawn := w3.drawn + 1 } : World).heap[gb]? = some (.cells #[.int .u32 g, .int .u8 m] 35 (0, 0)) := hbk
  generalize ({ w3 with drawn := w3.drawn + 1 } : World) = w4 at hF4 hG4 hB4 hbk4 ⊢
  clear hbk G1 B1 hF3 hF
  have q0 := hB4.c0
  have hfz : w4.frozen? ⟨gb, 0, none⟩ = false := by
    unfold World.frozen?
    simp only [hbk4]
    rfl
  simp only [List.take_succ_cons, List.take_zero, List.drop_succ_cons, List.drop_zero]
  repeat still_step
  refine wpStill_nil ?_
  obtain ⟨y, hy⟩ : ∃ y : Nat, y = 2 ^ k := ⟨_, rfl⟩
  have hylt : y < 4294967296 := by rw [hy]; exact Nat.lt_of_lt_of_le (Nat.pow_lt_pow_right (by decide) (show k < 32 by omega)) (by decide)
  have hp : IntKind.u32.wrap ((2 : Int) ^ k) = (y : Int) := by
    have e : (2 : Int) ^ k = ((2 ^ k : Nat) : Int) := by simp
    rw [e, ← hy, IntKind.wrap_u32]; omega
  obtain ⟨x1, hx1⟩ : ∃ x1 : Nat, x1 = g ||| y := ⟨_, rfl⟩
  have hbo : bits BinOp.or IntKind.u32 (g : Int) (y : Int) = (x1 : Int) := by rw [hx1]; exact u32_or_nat _ _ hgl hylt
  have hx1l : x1 < 4294967296 := by rw [hx1]; exact Nat.or_lt_two_pow (n := 32) hgl hylt
  obtain ⟨l, hl⟩ : ∃ l : Nat, l = max n 33 := ⟨_, rfl⟩
  have hmx : max (n : Int) 33 = (l : Int) := by omega
  have hl2 : ¬ l ≤ 32 ∧ l < 256 := by omega
  have HY := Lib.hid (And.intro hy (And.intro hx1 hl))
  clear hy hx1 hl
  have hF5 : Fr [gb] w4 ((w4.setCell ⟨gb, 0, none⟩ (.int .u32 x1)).alloc (.cells #[.int .u32 a, .int .u8 l] 35)) := ((Fr.refl _ _).setCell (.inl (by simp)) _).alloc _
  have s5 : (w4.setCell ⟨gb, 0, none⟩ (.int .u32 x1)).heap.size = w4.heap.size := by simp
  have e0 : ((w4.setCell ⟨gb, 0, none⟩ (.int .u32 x1)).alloc (.cells #[.int .u32 a, .int .u8 l] 35)).cell? ⟨gb, 0, none⟩ = some (.int .u32 x1) := old_cell (World.cell?_setCell_same _ _ _ hB4.c0) _
  have e1 : ((w4.setCell ⟨gb, 0, none⟩ (.int .u32 x1)).alloc (.cells #[.int .u32 a, .int .u8 l] 35)).cell? ⟨gb, 1, none⟩ = some (.int .u8 m) := old_cell ((World.cell?_setCell_other _ _ _ _ (by intro e; injection e with _ e; exact absurd e (by decide))).trans hB4.c1) _
  have el := pc_new (w4.setCell ⟨gb, 0, none⟩ (.int .u32 x1)) a l 35
  rw [s5] at el
  have el0 := el.c0
  have el1 := el.c1
  have hG5 := hG4.fr hF5 (by simpa using hgb2)
  have hF6 := (hF4.trans2 hF5 (fun t ht => .inr (by simp at ht; omega))).alloc (.cells #[.int .u32 x1, .int .u8 m, .int .u32 a, .int .u8 l] 35)
  clear hF5 el hG4 hB4 hbk4
  simp only [hp, hbo]
  go_wp2_with fail
  have R0 := rd_new' ((w4.setCell ⟨gb, 0, none⟩ (.int .u32 x1)).alloc (.cells #[.int .u32 a, .int .u8 l] 35)) [.int .u32 x1, .int .u8 m, .int .u32 a, .int .u8 l] 35
  rw [show ((w4.setCell ⟨gb, 0, none⟩ (.int .u32 x1)).alloc (.cells #[.int .u32 a, .int .u8 l] 35)).heap.size = w4.heap.size + 1 by simp] at R0
  replace hG5 := hG5.fr ((Fr.refl [] _).alloc (.cells #[.int .u32 x1, .int .u8 m, .int .u32 a, .int .u8 l] 35)) (by simp)
  generalize ((w4.setCell ⟨gb, 0, none⟩ (.int .u32 x1)).alloc (.cells #[.int .u32 a, .int .u8 l] 35)).alloc (.cells #[.int .u32 x1, .int .u8 m, .int .u32 a, .int .u8 l] 35) = w6 at hG5 hF6 R0 ⊢
  generalize w4.heap.size + 1 = gr at R0 ⊢
  clear el0 el1 e0 e1 q0 hfz s5
  have hE : ∀ j, j < 2 → ∃ X Y : Nat, w6.cell? ⟨gr, j * 2, none⟩ = some (.int .u32 X) ∧ w6.cell? ⟨gr, j * 2 + 1, none⟩ = some (.int .u8 Y) ∧ X < 4294967296 ∧ Y < 256 ∧ ¬ PR X Y := by
    intro j hj
    have c0 := rdc R0 0 _ rfl
    have c1 := rdc R0 1 _ rfl
    have c2 := rdc R0 2 _ rfl
    have c3 := rdc R0 3 _ rfl
    match j, hj with
    | 0, _ => exact ⟨x1, m, c0, c1, hx1l, by omega, by rw [HY.out.2.1, HY.out.1, HG.out]; exact bad_bit a m k hk2⟩
    | 1, _ => exact ⟨a, l, c2, c3, ha, hl2.2, fun h => hl2.1 h.1⟩
  clear R0
  have hml : m < 256 := by omega
  go_loopw [56] (fun i wr => ∃ j : Nat, j ≤ 2 ∧ i = .int .i64 j ∧ Fr [] w6 wr) (fun i _ => 2 - (intOf i).toNat)
  case atStart => exact ⟨0, Nat.zero_le _, rfl, Fr.refl _ _⟩
  case round =>
    obtain ⟨j, hj, rfl, hFr⟩ := hrel
    by_cases hlt : j < 2
    · obtain ⟨X, Y, r0, r1, hX, hY, hP⟩ := hE j hlt
      have r0' := hFr.cell r0 (by simp)
      have r1' := hFr.cell r1 (by simp)
      clear r0 r1
      have hc1 : ∀ W, Calls Tryd.prog 19 #[Value.agg #[Value.int .u32 X, Value.int .u8 Y]] W fun e w' => e = .returned (.bool false) ∧ Fr [] W w' := fun W => by
        have h := right_any X Y hX hY W
        rw [decide_eq_false hP] at h
        exact h
      have hc2 : ∀ W, Calls Tryd.prog 20 #[Value.agg #[Value.int .u32 X, Value.int .u8 Y], .int .u32 X] W fun e w' => e = .returned (.bool false) ∧ Fr [] W w' := fun W => by
        have h := has_any X Y X hX hY hX W
        rw [decide_eq_false (fun h => hP h.1)] at h
        exact h
      have hc3 : ∀ W, Calls Tryd.prog 21 #[Value.agg #[Value.int .u32 X, Value.int .u8 Y], Value.agg #[Value.int .u32 g, Value.int .u8 m]] W fun e w' => e = .returned (.bool false) ∧ Fr [] W w' := fun W => by
        have h := inside_any X Y g m hX hY hgl hml W
        rw [decide_eq_false (fun h => hP h.1)] at h
        exact h
      have hc4 : ∀ W, Calls Tryd.prog 21 #[Value.agg #[Value.int .u32 g, Value.int .u8 m], Value.agg #[Value.int .u32 X, Value.int .u8 Y]] W fun e w' => e = .returned (.bool false) ∧ Fr [] W w' := fun W => by
        have h := inside_any g m X Y hgl hml hX hY W
        rw [decide_eq_false (fun h => hP h.2.2.1)] at h
        exact h
      have hc5 : ∀ W, Calls Tryd.prog 21 #[Value.agg #[Value.int .u32 X, Value.int .u8 Y], Value.agg #[Value.int .u32 X, Value.int .u8 Y]] W fun e w' => e = .returned (.bool false) ∧ Fr [] W w' := fun W => by
        have h := inside_any X Y X Y hX hY hX hY W
        rw [decide_eq_false (fun h => hP h.1)] at h
        exact h
      have hc6 : ∀ W, Calls Tryd.prog 22 #[Value.agg #[Value.int .u32 X, Value.int .u8 Y], Value.agg #[Value.int .u32 g, Value.int .u8 m]] W fun e w' => e = .returned (.bool false) ∧ Fr [] W w' := fun W => by
        have h := meet_any X Y g m hX hY hgl hml W
        rw [decide_eq_false (fun h => hP h.1), decide_eq_false (fun h => hP h.2.2.1)] at h
        exact h
      have hc7 : ∀ W, Calls Tryd.prog 22 #[Value.agg #[Value.int .u32 g, Value.int .u8 m], Value.agg #[Value.int .u32 X, Value.int .u8 Y]] W fun e w' => e = .returned (.bool false) ∧ Fr [] W w' := fun W => by
        have h := meet_any g m X Y hgl hml hX hY W
        rw [decide_eq_false (fun h => hP h.2.2.1), decide_eq_false (fun h => hP h.1)] at h
        exact h
      have hc8 : ∀ W, Calls Tryd.prog 22 #[Value.agg #[Value.int .u32 X, Value.int .u8 Y], Value.agg #[Value.int .u32 X, Value.int .u8 Y]] W fun e w' => e = .returned (.bool false) ∧ Fr [] W w' := fun W => by
        have h := meet_any X Y X Y hX hY hX hY W
        rw [decide_eq_false (fun h => hP h.1)] at h
        exact h
      replace hFr := hFr.alloc (.cells #[.int .u32 X, .int .u8 Y] 35)
      have B := pc_new wr X Y 35
      go_wp2_with fail
      generalize wr.alloc (.cells #[.int .u32 X, .int .u8 Y] 35) = v0 at hFr B ⊢
      generalize wr.heap.size = gp at B ⊢
      clear r0' r1'
      refine (ptext_no X Y hX hY hP _).mono ?_
      rintro e v1 ⟨rfl, hv⟩
      replace hFr := hFr.trans hv
      replace B := B.fr hv (by simp)
      clear hv
      have b0 := B.c0
      have b1 := B.c1
      have g0 := (hG5.fr hFr (by simp)).c0
      have g1 := (hG5.fr hFr (by simp)).c1
      go_wp2_with fail
      clear b0 b1 g0 g1
      refine (bounds_no X Y hX hY hP _).mono ?_
      rintro e v2 ⟨rfl, hv⟩
      replace hFr := hFr.trans hv
      replace B := B.fr hv (by simp)
      clear hv
      have b0 := B.c0
      have b1 := B.c1
      have g0 := (hG5.fr hFr (by simp)).c0
      have g1 := (hG5.fr hFr (by simp)).c1
      go_wp2_with fail
      clear b0 b1 g0 g1
      refine (hc1 _).mono ?_
      rintro e v3 ⟨rfl, hv⟩
      replace hFr := hFr.trans hv
      replace B := B.fr hv (by simp)
      clear hv
      have b0 := B.c0
      have b1 := B.c1
      have g0 := (hG5.fr hFr (by simp)).c0
      have g1 := (hG5.fr hFr (by simp)).c1
      go_wp2_with fail
      clear b0 b1 g0 g1
      refine (hc2 _).mono ?_
      rintro e v4 ⟨rfl, hv⟩
      replace hFr := hFr.trans hv
      replace B := B.fr hv (by simp)
      clear hv
      have b0 := B.c0
      have b1 := B.c1
      have g0 := (hG5.fr hFr (by simp)).c0
      have g1 := (hG5.fr hFr (by simp)).c1
      go_wp2_with fail
      clear b0 b1 g0 g1
      refine (hc3 _).mono ?_
      rintro e v5 ⟨rfl, hv⟩
      replace hFr := hFr.trans hv
      replace B := B.fr hv (by simp)
      clear hv
      have b0 := B.c0
      have b1 := B.c1
      have g0 := (hG5.fr hFr (by simp)).c0
      have g1 := (hG5.fr hFr (by simp)).c1
      go_wp2_with fail
      clear b0 b1 g0 g1
      refine (hc4 _).mono ?_
      rintro e v6 ⟨rfl, hv⟩
      replace hFr := hFr.trans hv
      replace B := B.fr hv (by simp)
      clear hv
      have b0 := B.c0
      have b1 := B.c1
      have g0 := (hG5.fr hFr (by simp)).c0
      have g1 := (hG5.fr hFr (by simp)).c1
      go_wp2_with fail
      clear b0 b1 g0 g1
      refine (hc5 _).mono ?_
      rintro e v7 ⟨rfl, hv⟩
      replace hFr := hFr.trans hv
      replace B := B.fr hv (by simp)
      clear hv
      have b0 := B.c0
      have b1 := B.c1
      have g0 := (hG5.fr hFr (by simp)).c0
      have g1 := (hG5.fr hFr (by simp)).c1
      go_wp2_with fail
      clear b0 b1 g0 g1
      refine (hc6 _).mono ?_
      rintro e v8 ⟨rfl, hv⟩
      replace hFr := hFr.trans hv
      replace B := B.fr hv (by simp)
      clear hv
      have b0 := B.c0
      have b1 := B.c1
      have g0 := (hG5.fr hFr (by simp)).c0
      have g1 := (hG5.fr hFr (by simp)).c1
      go_wp2_with fail
      clear b0 b1 g0 g1
      refine (hc7 _).mono ?_
      rintro e v9 ⟨rfl, hv⟩
      replace hFr := hFr.trans hv
      replace B := B.fr hv (by simp)
      clear hv
      have b0 := B.c0
      have b1 := B.c1
      have g0 := (hG5.fr hFr (by simp)).c0
      have g1 := (hG5.fr hFr (by simp)).c1
      go_wp2_with fail
      clear b0 b1 g0 g1
      refine (hc8 _).mono ?_
      rintro e v10 ⟨rfl, hv⟩
      replace hFr := hFr.trans hv
      replace B := B.fr hv (by simp)
      clear hv
      have b0 := B.c0
      have b1 := B.c1
      have g0 := (hG5.fr hFr (by simp)).c0
      have g1 := (hG5.fr hFr (by simp)).c1
      go_wp2_with fail
      clear b0 b1 g0 g1
      go_roundw
      case rel => exact ⟨j + 1, by omega, by go_num, hFr⟩
      case measure => simp [intOf]; omega
    · obtain rfl : j = 2 := by omega
      clear hE hG5
      go_wp2_with fail
      refine (cut_no a l ha hl2.1 hl2.2 _).mono ?_
      rintro e v1 ⟨rfl, hv⟩
      replace hF6 := (hF6.trans hFr).trans hv
      clear hv hFr
      replace hF6 := hF6.alloc (.cells #[.int .u32 0, .int .u8 0] 35)
      have B := pc_new v1 0 0 35
      have b0 := B.c0
      have b1 := B.c1
      by_cases hft : fr = to_
      · subst hft
        go_wp2_with fail
        go_ret
        exact ⟨rfl, hF6⟩
      · have hft2 : ((fr : Int) == (to_ : Int)) = false := by rw [beq_eq_false_iff_ne]; omega
        have hw : IntKind.u16.wrap ((fr : Int) / 2 + (to_ : Int) / 2) = (fr : Int) / 2 + (to_ : Int) / 2 := by rw [IntKind.wrap_u16]; omega
        obtain ⟨M, hM⟩ : ∃ M : Nat, M = max fr to_ := ⟨_, rfl⟩
        obtain ⟨N, hN⟩ : ∃ N : Nat, N = min fr to_ := ⟨_, rfl⟩
        have hMi : max (fr : Int) (to_ : Int) = (M : Int) := by omega
        have hNi : min (fr : Int) (to_ : Int) = (N : Int) := by omega
        have HM2 := Lib.hid (And.intro hMi hNi)
        clear hMi hNi
        go_wp2_with fail
        simp only [HM2.out.1, HM2.out.2]
        have hs1 : (v1.alloc (.cells #[.int .u32 0, .int .u8 0] 35)).heap.size = v1.heap.size + 1 := by simp
        replace hF6 := hF6.alloc (.cells #[.int .u16 (M : Int), .int .u16 (N : Int)] 41)
        have R0 := new_cell (v1.alloc (.cells #[.int .u32 0, .int .u8 0] 35)) #[.int .u16 (M : Int), .int .u16 (N : Int)] 41 0 _ rfl
        have R1 := new_cell (v1.alloc (.cells #[.int .u32 0, .int .u8 0] 35)) #[.int .u16 (M : Int), .int .u16 (N : Int)] 41 1 _ rfl
        rw [hs1] at R0 R1
        clear hs1
        generalize (v1.alloc (.cells #[.int .u32 0, .int .u8 0] 35)).alloc (.cells #[.int .u16 (M : Int), .int .u16 (N : Int)] 41) = v2 at hF6 R0 R1 ⊢
        generalize v1.heap.size + 1 = gx at R0 R1 ⊢
        have hMN : ¬ M ≤ N := by omega
        have hrr : ∀ W, Calls Tryd.prog 23 #[Value.agg #[Value.int .u16 M, Value.int .u16 N]] W fun e w' => e = .returned (.bool false) ∧ Fr [] W w' := fun W => by
          have h := rightRange_any M N W
          rw [decide_eq_false hMN] at h
          exact h
        have hin : ∀ (x : Nat) W, Calls Tryd.prog 24 #[Value.agg #[Value.int .u16 M, Value.int .u16 N], .int .u16 x] W fun e w' => e = .returned (.bool false) ∧ Fr [] W w' := fun x W => by
          have h := in_any M N x W
          have e : (decide (M ≤ x) && decide (x ≤ N)) = false := by
            rw [Bool.and_eq_false_iff, decide_eq_false_iff_not, decide_eq_false_iff_not]
            omega
          rw [e] at h
          exact h
        have hin3 : ∀ W, Calls Tryd.prog 24 #[Value.agg #[Value.int .u16 M, Value.int .u16 N], .int .u16 ((fr : Int) / 2 + (to_ : Int) / 2)] W fun e w' => e = .returned (.bool false) ∧ Fr [] W w' := fun W => by
          have h := hin (fr / 2 + to_ / 2) W
          have e : (((fr / 2 + to_ / 2 : Nat)) : Int) = (fr : Int) / 2 + (to_ : Int) / 2 := by omega
          rw [e] at h
          exact h
        clear hM hN b0 b1 B
        refine (rangeText_no M N hMN _).mono ?_
        rintro e v3 ⟨rfl, hv⟩
        replace hF6 := hF6.trans hv
        replace R0 := hv.cell R0 (by simp)
        replace R1 := hv.cell R1 (by simp)
        clear hv
        clear hft2
        go_wp2_with fail
        refine (hrr _).mono ?_
        rintro e v4 ⟨rfl, hv⟩
        replace hF6 := hF6.trans hv
        replace R0 := hv.cell R0 (by simp)
        replace R1 := hv.cell R1 (by simp)
        clear hv
        go_wp2_with fail
        refine (hin fr _).mono ?_
        rintro e v4 ⟨rfl, hv⟩
        replace hF6 := hF6.trans hv
        replace R0 := hv.cell R0 (by simp)
        replace R1 := hv.cell R1 (by simp)
        clear hv
        go_wp2_with fail
        refine (hin to_ _).mono ?_
        rintro e v4 ⟨rfl, hv⟩
        replace hF6 := hF6.trans hv
        replace R0 := hv.cell R0 (by simp)
        replace R1 := hv.cell R1 (by simp)
        clear hv
        go_wp2_with fail
        refine (hin3 _).mono ?_
        rintro e v4 ⟨rfl, hv⟩
        replace hF6 := hF6.trans hv
        replace R0 := hv.cell R0 (by simp)
        replace R1 := hv.cell R1 (by simp)
        clear hv
        go_wp2_with fail
        go_ret
        exact ⟨rfl, hF6⟩
end Go.Proofs.YticopkegbiemjabDoor
