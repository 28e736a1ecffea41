/- The walk of CsumWrong. -/
import Derived.Test.YtdkpmbefnfdbkabLem
namespace Go.Proofs.Ytdkpmbefnfdbkab
open Go.RowKit

theorem or_one_odd (a : Nat) : (a ||| 1) % 2 = 1 := by
  have h : (a ||| 1).testBit 0 = true := by rw [Nat.testBit_or]; simp
  rw [Nat.testBit_zero] at h
  exact of_decide_eq_true h
/-- n | 1 is odd. -/
theorem or1_odd (n : Int) : (bits BinOp.or IntKind.i64 n 1) % 2 = 1 := by
  show IntKind.i64.wrap ((BitVec.ofInt 64 n ||| BitVec.ofInt 64 1).toNat : Int) % 2 = 1
  rw [BitVec.toNat_or]
  have h1 : (BitVec.ofInt 64 1).toNat = 1 := by decide
  rw [h1]
  have h := or_one_odd (BitVec.ofInt 64 n).toNat
  generalize (BitVec.ofInt 64 n).toNat ||| 1 = k at h
  have hk : IntKind.i64.wrap (k : Int) = wrap64 (k : Int) := by simp [IntKind.wrap, IntKind.bits, IntKind.signed, wrap64]; split <;> omega
  rw [hk]
  unfold wrap64
  omega

theorem min_m1 (n : Int) : ∃ p, (if (-1 : Int) < n then (-1 : Int) else n) = p ∧ p < 0 := ⟨_, rfl, by split <;> omega⟩
theorem max_lo (n m : Int) : ∃ p, (if n < m then m else n) = p ∧ m ≤ p := ⟨_, rfl, by split <;> omega⟩

set_option maxRecDepth 100000 in
set_option maxHeartbeats 4000000 in
theorem cwrong_any (A : Option Addr) (n c m : Nat) (z : Int) (src : Nat) (w : World) (hm : (n ≤ 3000 ∧ m = n) ∨ (¬ n ≤ 3000 ∧ m = 3000)) (hnc : n ≤ c) :
    Calls Try.prog 4 #[.slice A n c, .int .i64 z, .int .u32 src] w fun e w' => e = .returned (.bool true) ∧ Fr [] w w' := by
  have hm2 : m ≤ 3000 ∧ m ≤ n := by omega
  have hmin := min_is (M := 3000) rfl hm
  clear hm
  have hodd := or1_odd z
  generalize hp2 : bits BinOp.or IntKind.i64 z 1 = p2 at hodd
  obtain ⟨p1, hp1, hq1⟩ := min_m1 z
  obtain ⟨p3, hp3, hq3⟩ := max_lo z ((m : Int) - 1)
  obtain ⟨p5, hp5, hq5⟩ := max_lo z 65536
  have hw1 : IntKind.i64.wrap ((m : Int) - 1) = (m : Int) - 1 := IntWalk.i64_in _ (by omega)
  have hX1 : ∀ (B : Option Addr) (c : Nat) W, Calls Try.prog 11 #[.slice B m c, .int .i64 p1] W (FixNo W) := fun B c W => fix_no B m c p1 W (by omega) (.inl hq1)
  have hX2 : ∀ (B : Option Addr) (c : Nat) W, Calls Try.prog 11 #[.slice B m c, .int .i64 p2] W (FixNo W) := fun B c W => fix_no B m c p2 W (by omega) (.inr (.inl (by omega)))
  have hX3 : ∀ (B : Option Addr) (c : Nat) W, Calls Try.prog 11 #[.slice B m c, .int .i64 p3] W (FixNo W) := fun B c W => fix_no B m c p3 W (by omega) (.inr (.inr (by omega)))
  have hX4 : ∀ (B : Option Addr) (c : Nat) W, Calls Try.prog 11 #[.slice B m c, .int .i64 m] W (FixNo W) := fun B c W => fix_no B m c m W (by omega) (.inr (.inr (by omega)))
  have hY1 := fun W => pseudo_no src src 6 p1 W (.inl hq1)
  have hY5 := fun W => pseudo_no src src 6 p5 W (.inr (by omega))
  clear hq1 hq3 hq5 hodd
  go_enter Try.func4, Try.ntmps4
  go_wp2_with fail
  refine (awake_any w).mono ?_
  rintro e w1 ⟨rfl, hF⟩
  go_wp2_with fail
  replace hF : Fr [] w (w1.alloc (.cells #[.int .i64 p1, .int .i64 p2, .int .i64 p3, .int .i64 m] 3)) := hF.alloc _
  refine wp_loop_rounds 5 ?_
  rw [rounds_succ]
  go_wp2_with fail
  refine (hX1 _ _ _).mono ?_
  rintro e w' ⟨rfl, rfl⟩
  go_wp2_with fail
  rw [rounds_succ]
  go_wp2_with fail
  refine (hX2 _ _ _).mono ?_
  rintro e w' ⟨rfl, rfl⟩
  go_wp2_with fail
  rw [rounds_succ]
  go_wp2_with fail
  refine (hX3 _ _ _).mono ?_
  rintro e w' ⟨rfl, rfl⟩
  go_wp2_with fail
  rw [rounds_succ]
  go_wp2_with fail
  refine (hX4 _ _ _).mono ?_
  rintro e w' ⟨rfl, rfl⟩
  go_wp2_with fail
  rw [rounds_succ]
  go_wp2_with fail
  clear hX1 hX2 hX3 hX4
  replace hF : Fr [] w ((w1.alloc (.cells #[.int .i64 p1, .int .i64 p2, .int .i64 p3, .int .i64 m] 3)).alloc (.cells #[.int .i64 p1, .int .i64 p5] 3)) := hF.alloc _
  refine wp_loop_rounds 3 ?_
  rw [rounds_succ]
  go_wp2_with fail
  refine (hY1 _).mono ?_
  rintro e w' ⟨rfl, rfl⟩
  go_wp2_with fail
  rw [rounds_succ]
  go_wp2_with fail
  refine (hY5 _).mono ?_
  rintro e w' ⟨rfl, rfl⟩
  go_wp2_with fail
  rw [rounds_succ]
  go_wp2_with fail
  go_ret
  exact ⟨rfl, hF⟩
end Go.Proofs.Ytdkpmbefnfdbkab
