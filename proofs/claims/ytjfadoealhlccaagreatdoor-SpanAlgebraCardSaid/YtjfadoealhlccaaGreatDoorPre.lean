/- Prefixes: the program's functions. -/
import Derived.Test.YtjfadoealhlccaaGreatDoorText
import Derived.Test.YtjfadoealhlccaaGreatDoorPfx
import Derived.Test.YtjfadoealhlccaaGreatDoorXt
import Derived.Laws.BitsAllLaws
import Derived.Laws.ResultCell
namespace Go.Proofs.YtjfadoealhlccaaGreatDoor
open Go.RowKit
set_option linter.unusedVariables false
set_option maxRecDepth 20000

theorem xor_max {x : Nat} (hx : x < 4294967296) : 4294967295 ^^^ x = 4294967295 - x := by
  apply Nat.eq_of_testBit_eq
  intro i
  rw [show 4294967295 - x = 2 ^ 32 - (x + 1) by omega, Nat.testBit_two_pow_sub_succ (by omega), Nat.testBit_xor, show (4294967295 : Nat) = 2 ^ 32 - 1 from rfl, Nat.testBit_two_pow_sub_one]
  by_cases hi : i < 32
  · simp [hi]
  · have : x.testBit i = false := Nat.testBit_lt_two_pow (Nat.lt_of_lt_of_le hx (by have : 2 ^ 32 ≤ 2 ^ i := Nat.pow_le_pow_right (by decide) (by omega); omega))
    simp [hi, this]
theorem shr_all (n : Nat) : 4294967295 / 2 ^ (min n 32) = psize n - 1 := by
  by_cases h : n ≤ 32
  · rw [Nat.min_eq_left h]
    unfold psize
    have e : 2 ^ 32 = 2 ^ n * 2 ^ (32 - n) := by rw [← Nat.pow_add]; congr 1; omega
    have h1 : 0 < 2 ^ n := Nat.pow_pos (by decide)
    have h2 : 0 < 2 ^ (32 - n) := Nat.pow_pos (by decide)
    apply Nat.div_eq_of_lt_le
    · rw [Nat.sub_mul, Nat.mul_comm, ← e]; omega
    · rw [Nat.sub_add_cancel h2, Nat.mul_comm, ← e]; omega
  · rw [Nat.min_eq_right (by omega), psize_big (by omega)]
theorem mask_bits (n : Nat) : bits BinOp.xor IntKind.u32 IntKind.u32.max (4294967295 / 2 ^ min n 32) = (pmask n : Int) := by
  have h1 := psize_pos n
  have h2 := psize_le n
  have e : (4294967295 : Int) / 2 ^ min n 32 = ((psize n - 1 : Nat) : Int) := by
    rw [← shr_all]
    simp
  rw [e, show IntKind.u32.max = ((4294967295 : Nat) : Int) from rfl, u32_xor_nat _ _ (by decide) (by omega), xor_max (by omega)]
  unfold pmask
  omega
theorem mask_any (n : Nat) (hn : n < 256) (W : World) : Calls Tryz.prog 58 #[.int .u8 n] W fun e w' => e = .returned (.int .u32 (pmask n)) ∧ w' = W := by
  have hm := mask_bits n
  have hM := Lib.hid hm
  clear hm
  go_enter Tryz.func58, Tryz.ntmps58
  go_wp2
  go_ret
  refine ⟨?_, rfl⟩
  show Ending.returned (Value.int IntKind.u32 _) = _
  rw [hM.out]
theorem mask_q0 (n : Nat) (hn : n < 256) (w : World) (q : Nat) : Calls Tryz.prog 58 #[.int .u8 n] (w.drewN q) fun e w' => e = .returned (.int .u32 (pmask n)) ∧ ∃ j, w' = w.drewN j :=
  (mask_any n hn _).mono fun _ _ h => ⟨h.1, _, h.2⟩
theorem mask_q1 (n : Nat) (hn : n < 256) (w : World) (p q : Nat) : Calls Tryz.prog 58 #[.int .u8 n] (w.drewN (p + q)) fun e w' => e = .returned (.int .u32 (pmask n)) ∧ ∃ j, w' = w.drewN (p + j) :=
  (mask_any n hn _).mono fun _ _ h => ⟨h.1, _, h.2⟩
theorem mask_qc {w W : World} (n : Nat) (hn : n < 256) (hW : QC w W) : Calls Tryz.prog 58 #[.int .u8 n] W fun e w' => e = .returned (.int .u32 (pmask n)) ∧ QC w w' :=
  (mask_any n hn W).mono fun _ _ h => ⟨h.1, by rw [h.2]; exact hW⟩

set_option maxHeartbeats 1000000 in
theorem right_any (a n : Nat) (ha : a < 4294967296) (hn : n < 256) (W : World) : Calls Tryz.prog 40 #[.agg #[.int .u32 a, .int .u8 n]] W fun e w' => e = .returned (.bool (decide (PR a n))) ∧ Fr [] W w' := by
  have hb : bits BinOp.andNot IntKind.u32 (a : Int) (pmask n : Int) = ((a % psize n : Nat) : Int) := by rw [u32_andNot_nat _ _ ha (pmask_lt n), andnot_pmask ha]
  by_cases h : n ≤ 32
  · have hd : decide (PR a n) = (((a % psize n : Nat) : Int) == 0) := by
      rw [Bool.eq_iff_iff, decide_eq_true_iff, beq_iff_eq]
      unfold PR
      generalize a % psize n = r
      omega
    have g1 : decide (n ≤ 32) = true := decide_eq_true h
    have g2 : decide ((n : Int) ≤ 32) = true := by rw [decide_eq_true_iff]; omega
    rw [hd]
    generalize a % psize n = r at hb ⊢
    clear hd
    go_enter Tryz.func40, Tryz.ntmps40
    go_wp2_with fail
    go_quiet ((go_at_call 58; first | exact mask_q0 n hn _ _ | exact mask_q1 n hn _ _ _))
    go_wp2
    go_ret
    exact ⟨rfl, ((Fr.refl [] W).alloc _).drewN _⟩
  · have hd : decide (PR a n) = false := by rw [decide_eq_false_iff_not]; exact fun hp => h hp.1
    have g1 : decide (n ≤ 32) = false := decide_eq_false h
    have g2 : decide ((n : Int) ≤ 32) = false := by rw [decide_eq_false_iff_not]; omega
    rw [hd]
    clear hd hb
    go_enter Tryz.func40, Tryz.ntmps40
    go_wp2_with fail
    go_quiet ((go_at_call 58; first | exact mask_q0 n hn _ _ | exact mask_q1 n hn _ _ _))
    go_wp2
    go_ret
    exact ⟨rfl, ((Fr.refl [] W).alloc _).drewN _⟩
set_option maxHeartbeats 1000000 in
theorem last_any (a n : Nat) (ha : a < 4294967296) (hn : n < 256) (W : World) : Calls Tryz.prog 41 #[.agg #[.int .u32 a, .int .u8 n]] W fun e w' => e = .returned (.int .u32 ((a ||| (4294967295 - pmask n) : Nat))) ∧ Fr [] W w' := by
  have hx : bits BinOp.xor IntKind.u32 IntKind.u32.max (pmask n : Int) = ((4294967295 - pmask n : Nat) : Int) := by
    have := pmask_lt n
    rw [show IntKind.u32.max = ((4294967295 : Nat) : Int) from rfl, u32_xor_nat _ _ (by decide) this, xor_max this]
  have ho : bits BinOp.or IntKind.u32 (a : Int) ((4294967295 - pmask n : Nat) : Int) = ((a ||| (4294967295 - pmask n) : Nat) : Int) := u32_or_nat _ _ ha (by omega)
  generalize (a ||| (4294967295 - pmask n)) = l at ho ⊢
  generalize 4294967295 - pmask n = x at hx ho
  go_enter Tryz.func41, Tryz.ntmps41
  go_wp2_with fail
  go_quiet ((go_at_call 58; first | exact mask_q0 n hn _ _ | exact mask_q1 n hn _ _ _))
  go_wp2
  go_ret
  exact ⟨rfl, ((Fr.refl [] W).alloc _).drewN _⟩

set_option maxHeartbeats 1000000 in
theorem bounds_yes (a n : Nat) (ha : a < 4294967296) (hn : n < 256) (hp : PR a n) (W : World) : Calls Tryz.prog 23 #[.agg #[.int .u32 a, .int .u8 n]] W fun e w' => e = .returned (.tuple #[.int .u32 a, .int .u32 ((a + (psize n - 1) : Nat)), .int .i64 0]) ∧ Fr [] W w' := by
  have hR := fun W => right_any a n ha hn W
  rw [decide_eq_true hp] at hR
  have hL := fun W => last_any a n ha hn W
  rw [or_pmask n hp.2] at hL
  generalize a + (psize n - 1) = l at hL ⊢
  go_enter Tryz.func23, Tryz.ntmps23
  go_wp2_with fail
  refine (hR _).mono ?_
  rintro e w1 ⟨rfl, hF1⟩
  have hc0 : w1.cell? ⟨W.heap.size, 0, none⟩ = some (.int .u32 a) := hF1.cell (new_cell _ _ _ 0 _ rfl) (by simp)
  have hc1 : w1.cell? ⟨W.heap.size, 1, none⟩ = some (.int .u8 n) := hF1.cell (new_cell _ _ _ 1 _ rfl) (by simp)
  replace hF1 := ((Fr.refl [] W).alloc _).trans hF1
  have x0 := xt_cell hc0
  have x1 := xt_cell hc1
  clear hc0 hc1 hR
  go_wp2_with fail
  refine wp_region_xt (by kernel_rfl) (by kernel_rfl) ?_
  repeat (go_big_quiet_step ((first
    | (go_at_call 41; exact Calls.xt (fun W' hW' => hL W') _))))
  refine wpQuiet_nil ?_
  rintro w2 ⟨x, rfl⟩
  have hF2 := xt_fr x
  go_wp2
  go_ret3
  exact ⟨rfl, hF1.trans hF2⟩
theorem bounds_no (a n : Nat) (ha : a < 4294967296) (hn : n < 256) (hp : ¬ PR a n) (W : World) : Calls Tryz.prog 23 #[.agg #[.int .u32 a, .int .u8 n]] W fun e w' => e = .returned (.tuple #[.int .u32 0, .int .u32 0, .int .i64 31]) ∧ Fr [] W w' := by
  have hR := fun W => right_any a n ha hn W
  rw [decide_eq_false hp] at hR
  go_enter Tryz.func23, Tryz.ntmps23
  go_wp2_with fail
  refine (hR _).mono ?_
  rintro e w1 ⟨rfl, hF1⟩
  replace hF1 := ((Fr.refl [] W).alloc _).trans hF1
  go_wp2
  go_ret3
  exact ⟨rfl, hF1⟩
end Go.Proofs.YtjfadoealhlccaaGreatDoor
