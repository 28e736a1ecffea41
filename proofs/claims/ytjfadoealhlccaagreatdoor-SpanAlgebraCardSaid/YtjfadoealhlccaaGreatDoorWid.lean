/- The widest prefix that begins a range. -/
import Derived.Test.YtjfadoealhlccaaGreatDoorPre
import Derived.Test.YtjfadoealhlccaaGreatDoorRdp
import Derived.Laws.Rows
import Derived.Lib.TrailingZeros
import Derived.Deep.LoopGhost
namespace Go.Proofs.YtjfadoealhlccaaGreatDoor
open Go.RowKit
set_option linter.unusedVariables false
set_option maxRecDepth 20000

/-- (f, n) is the widest right prefix that begins at f and does not pass t. -/
def IsW (f t n : Nat) : Prop := PR f n ∧ f + (psize n - 1) ≤ t ∧ (n = 0 ∨ ¬ (PR f (n - 1) ∧ f + (psize (n - 1) - 1) ≤ t))
theorem ctz_pr {f : Nat} (hf : f < 4294967296) : Lib.ctz 32 f ≤ 32 ∧ PR f (32 - Lib.ctz 32 f) ∧ (32 - Lib.ctz 32 f = 0 ∨ ¬ PR f (32 - Lib.ctz 32 f - 1)) := by
  by_cases h0 : f = 0
  · subst h0
    exact ⟨by decide, ⟨by decide, by decide⟩, .inl (by decide)⟩
  · have e : Lib.ctz 32 f = Lib.ctzFrom 32 f := by unfold Lib.ctz; rw [if_neg h0]
    obtain ⟨m, h1, h2⟩ := Lib.ctzFrom_spec 32 f (by omega) hf
    rw [e]
    generalize Lib.ctzFrom 32 f = c at h1 h2
    refine ⟨by omega, ⟨by omega, ?_⟩, .inr ?_⟩
    · unfold psize
      rw [show 32 - (32 - c) = c by omega, h1]
      exact Nat.mul_mod_right _ _
    · rintro ⟨_, h3⟩
      unfold psize at h3
      rw [show 32 - (32 - c - 1) = c + 1 by omega] at h3
      obtain ⟨q, hq⟩ := Nat.dvd_of_mod_eq_zero h3
      rw [h1, Nat.pow_succ, Nat.mul_assoc] at hq
      have := Nat.eq_of_mul_eq_mul_left (Nat.pow_pos (by decide)) hq
      omega
theorem pr_succ {f n : Nat} (h : PR f n) (hn : n < 32) : PR f (n + 1) := ⟨by omega, by
  have := Nat.dvd_trans (psize_dvd (show n ≤ n + 1 by omega)) (Nat.dvd_of_mod_eq_zero h.2)
  exact Nat.mod_eq_zero_of_dvd this⟩

theorem last_pr (a n : Nat) (ha : a < 4294967296) (hp : PR a n) (W : World) : Calls Tryz.prog 41 #[.agg #[.int .u32 a, .int .u8 n]] W fun e w' => e = .returned (.int .u32 ((a + (psize n - 1) : Nat))) ∧ Fr [] W w' := by
  have := last_any a n ha (by have := hp.1; omega) W
  rw [or_pmask n hp.2] at this
  exact this

set_option maxHeartbeats 4000000 in
theorem widest_any (f t : Nat) (hft : f ≤ t) (ht : t < 4294967296) (W : World) (hV : VV W) : Calls Tryz.prog 75 #[.int .u32 f, .int .u32 t] W fun e w' => (∃ n, IsW f t n ∧ e = .returned (.agg #[.int .u32 f, .int .u8 n])) ∧ Fr [] W w' := by
  have hf : f < 4294967296 := by omega
  obtain ⟨hc1, hc2, hc3⟩ := ctz_pr hf
  have hV0 := hV.fr ((Fr.refl [] W).alloc (.cells #[.int .u32 0, .int .u8 0] 55))
  have hC := ctz_any f hf _ hV0
  have hw1 : IntKind.i64.wrap ((32 : Int) - (Lib.ctz 32 f : Int)) = ((32 - Lib.ctz 32 f : Nat) : Int) := by rw [i64_of (by omega) (by omega)]; omega
  have hw2 : IntKind.u8.wrap ((32 - Lib.ctz 32 f : Nat) : Int) = ((32 - Lib.ctz 32 f : Nat) : Int) := by rw [IntKind.wrap_u8]; omega
  generalize Lib.ctz 32 f = c at hC hw1 hw2 hc1 hc2 hc3
  generalize 32 - c = m at hw1 hw2 hc2 hc3
  have hF0 : Fr [] W ((W.alloc (.cells #[.int .u32 0, .int .u8 0] 55)).alloc (.cells #[.int .u32 f, .int .u8 m] 55)) := ((Fr.refl _ _).alloc _).alloc _
  have hb0 : ((W.alloc (.cells #[.int .u32 0, .int .u8 0] 55)).alloc (.cells #[.int .u32 f, .int .u8 m] 55)).heap[W.heap.size]? = some (.cells #[.int .u32 0, .int .u8 0] 55 (0, 0)) := ((Fr.refl [] _).alloc _).blk (blk_new W _ _) (by simp)
  have hb1 : ((W.alloc (.cells #[.int .u32 0, .int .u8 0] 55)).alloc (.cells #[.int .u32 f, .int .u8 m] 55)).heap[W.heap.size + 1]? = some (.cells #[.int .u32 f, .int .u8 m] 55 (0, 0)) := by
    have := blk_new (W.alloc (.cells #[.int .u32 0, .int .u8 0] 55)) #[.int .u32 f, .int .u8 m] 55
    simpa using this
  go_enter Tryz.func75, Tryz.ntmps75
  go_wp2_with fail
  refine hC.mono ?_
  rintro e w' ⟨rfl, rfl⟩
  clear hC hV0 hV
  go_wp2_with fail
  clear hw1 hw2
  generalize ((W.alloc (.cells #[.int .u32 0, .int .u8 0] 55)).alloc (.cells #[.int .u32 f, .int .u8 m] 55)) = w0 at hF0 hb0 hb1 ⊢
  go_loopg [] (32 - m) (fun g wr => ∃ n, g = 32 - n ∧ PR f n ∧ (n = 0 ∨ ¬ (PR f (n - 1) ∧ f + (psize (n - 1) - 1) ≤ t)) ∧ wr.heap[W.heap.size]? = some (.cells #[.int .u32 0, .int .u8 0] 55 (0, 0)) ∧ wr.heap[W.heap.size + 1]? = some (.cells #[.int .u32 f, .int .u8 n] 55 (0, 0)) ∧ Fr [] W wr)
  case atStart => exact ⟨m, rfl, hc2, by rcases hc3 with h | h; exact .inl h; exact .inr fun h2 => h h2.1, hb0, hb1, hF0⟩
  case round =>
    obtain ⟨n, rfl, hp, hmin, hbk, hbp, hF⟩ := hrel
    clear hb0 hb1 hF0 hc2 hc3
    have z0 : wr.cell? ⟨W.heap.size + 1, 0, none⟩ = some (.int .u32 f) := blk_cell hbp rfl
    have z1 : wr.cell? ⟨W.heap.size + 1, 1, none⟩ = some (.int .u8 n) := blk_cell hbp rfl
    have hl := last_pr f n hf hp wr
    have hll := plast_lt hf hp.2
    have hn32 := hp.1
    obtain ⟨l, hlz⟩ : ∃ l, l = f + (psize n - 1) := ⟨_, rfl⟩
    rw [← hlz] at hl hll
    by_cases hle : l ≤ t
    · have g1 : ¬ (t : Int) < l := by omega
      have g2 : ¬ t < l := by omega
      have HL := Lib.hid hlz
      have HM := Lib.hid hmin
      have HP := Lib.hid hp
      clear hlz hmin hp
      go_wp2_with fail
      refine hl.mono ?_
      rintro e w1 ⟨rfl, hG⟩
      have y0 := hG.cell z0 (by simp)
      have y1 := hG.cell z1 (by simp)
      have hbk1 := hG.blk hbk (by simp)
      replace hF := hF.trans hG
      have u0 := blk_cell hbk1 (j := 0) rfl
      have u1 := blk_cell hbk1 (j := 1) rfl
      have u2 := blk_fz (j := 0) hbk1
      have u3 := blk_fz (j := 1) hbk1
      clear hl hG z0 z1 hbk hbp
      go_wp2_with fail
      (try simp only [Exit.inBlock, Exit.then])
      have hq := heap_setCell_same _ W.heap.size 1 _ _ (.int .u8 n) (heap_setCell_same _ W.heap.size 0 _ _ (.int .u32 f) hbk1)
      refine bodyPost_ret (v := .agg #[.int .u32 f, .int .u8 n]) ?_ rfl ⟨⟨n, ⟨HP.out, by rw [← HL.out]; exact hle, HM.out⟩, rfl⟩, (hF.setCell (.inr (Nat.le_refl _)) _).setCell (.inr (Nat.le_refl _)) _⟩
      exact results_cell_row rfl _ _ W.heap.size _ _ _ _ rfl hq Tryz.underlying55 rfl (by kernel_rfl)
    · have g1 : (t : Int) < l := by omega
      have g2 : t < l := by omega
      have hn : n < 32 := by
        rcases Nat.lt_or_ge n 32 with h | h
        · exact h
        · rw [psize_big h] at hlz; omega
      have hw : IntKind.u8.wrap ((n : Int) + 1) = ((n + 1 : Nat) : Int) := by rw [IntKind.wrap_u8]; omega
      have HL := Lib.hid hlz
      have HM := Lib.hid hmin
      have HP := Lib.hid hp
      clear hlz hmin hp
      go_wp2_with fail
      refine hl.mono ?_
      rintro e w1 ⟨rfl, hG⟩
      have y0 := hG.cell z0 (by simp)
      have y1 := hG.cell z1 (by simp)
      have y3 := blk_fz (j := 1) (hG.blk hbp (by simp))
      have hbk1 := hG.blk hbk (by simp)
      have hbp1 := hG.blk hbp (by simp)
      replace hF := hF.trans hG
      clear hl hG z0 z1 hbk hbp
      go_wp2_with fail
      go_roundg (32 - (n + 1))
      case measure => omega
      case rel =>
        refine ⟨n + 1, rfl, pr_succ HP.out hn, .inr ?_, ?_, ?_, hF.setCell (.inr (by simp)) _⟩
        · rintro ⟨_, h⟩
          rw [Nat.add_sub_cancel, ← HL.out] at h
          omega
        · rw [Below.heap_setCell _ _ _ _ (by simp)]
          exact hbk1
        · exact heap_setCell_same _ (W.heap.size + 1) 1 _ _ _ hbp1
end Go.Proofs.YtjfadoealhlccaaGreatDoor
