/- AddrNests: of two right prefixes one is inside the other one, or no address is in both. -/
import Derived.Test.YticopkegbiemjaaDoorAwk
import Derived.Test.YticopkegbiemjaaDoorMeet
import Derived.Sort.AtCall
namespace Go.Proofs.YticopkegbiemjaaDoor
open Go.RowKit
set_option linter.unusedVariables false
set_option maxRecDepth 100000

set_option maxHeartbeats 4000000 in
theorem nests_any (a b o m n : Nat) (ha : a < 4294967296) (hb : b < 4294967296) (ho : o < 4294967296) (hm : m < 256) (hn : n < 256) (w : World) (hV : VV w) :
    Calls Tryd.prog 7 #[.int .u32 a, .int .u32 b, .int .u32 o, .int .u8 m, .int .u8 n] w fun e w' => e = .returned (.bool true) ∧ Fr [] w w' := by
  obtain ⟨k, hk⟩ : ∃ k : Nat, k = m % 33 := ⟨_, rfl⟩
  obtain ⟨l, hl⟩ : ∃ l : Nat, l = n % 33 := ⟨_, rfl⟩
  have hk1 : (m : Int) % 33 = (k : Int) := by omega
  have hl1 : (n : Int) % 33 = (l : Int) := by omega
  have hk2 : k ≤ 32 := by omega
  have hl2 : l ≤ 32 := by omega
  clear hk hl
  obtain ⟨p, hp⟩ : ∃ p, p = pcut a k := ⟨_, rfl⟩
  obtain ⟨q, hq⟩ : ∃ q, q = pcut b l := ⟨_, rfl⟩
  have hpl : p < 4294967296 := by rw [hp]; exact Nat.lt_of_le_of_lt (pcut_le a k) ha
  have hql : q < 4294967296 := by rw [hq]; exact Nat.lt_of_le_of_lt (pcut_le b l) hb
  have hC1 : ∀ W, Calls Tryd.prog 15 #[.int .u32 a, .int .u8 k] W fun e w' => e = .returned (.tuple #[.agg #[.int .u32 p, .int .u8 k], .int .i64 0]) ∧ Fr [] W w' := fun W => by rw [hp]; exact cut_yes a k ha hk2 W
  have hC2 : ∀ W, Calls Tryd.prog 15 #[.int .u32 b, .int .u8 l] W fun e w' => e = .returned (.tuple #[.agg #[.int .u32 q, .int .u8 l], .int .i64 0]) ∧ Fr [] W w' := fun W => by rw [hq]; exact cut_yes b l hb hl2 W
  have hPp : PR p k := by rw [hp]; exact pr_cut a hk2
  have hPq : PR q l := by rw [hq]; exact pr_cut b hl2
  have hHa : PH p k a := by rw [hp]; exact ph_cut a hk2
  have hHb : PH q l b := by rw [hq]; exact ph_cut b hl2
  clear hp hq
  have r1 := fun W => inside_any p k q l hpl (by omega) hql (by omega) W
  have r2 := fun W => inside_any q l p k hql (by omega) hpl (by omega) W
  have r3 := fun W => meet_any p k q l hpl (by omega) hql (by omega) W
  have r4 := fun W => meet_any q l p k hql (by omega) hpl (by omega) W
  have r5 := fun W => meet_any p k p k hpl (by omega) hpl (by omega) W
  have r6 := fun W => inside_any p k p k hpl (by omega) hpl (by omega) W
  have r7 := fun W => has_any p k a hpl (by omega) ha W
  have r8 := fun W => has_any q l b hql (by omega) hb W
  rw [decide_eq_true (pi_refl hPp)] at r5 r6
  rw [decide_eq_true hHa] at r7
  rw [decide_eq_true hHb] at r8
  have rP := fun (x : Nat) (hx : x < 4294967296) W => has_any p k x hpl (by omega) hx W
  have rQ := fun (x : Nat) (hx : x < 4294967296) W => has_any q l x hql (by omega) hx W
  by_cases h1 : PI p k q l
  · by_cases h2 : PI q l p k
    · obtain rfl : k = l := by have e1 := h1.2.1; have e2 := h2.2.1; omega
      obtain rfl : p = q := by have e := h2.2.2.2; rw [pcut_self hPq.2] at e; exact e.symm
      have hlk : ¬ (k : Int) < (k : Int) := by omega
      rw [decide_eq_true h1] at r1
      rw [decide_eq_true h1] at r2
      rw [decide_eq_true h1] at r3
      rw [decide_eq_true h1] at r4
      go_enter Tryd.func7, Tryd.ntmps7
      go_wp2_with fail
      refine (awake_any _ hV).mono ?_
      rintro e w1 ⟨rfl, hF⟩
      clear hV
      go_wp2_with fail
      refine (hC1 _).mono ?_
      rintro e w2 ⟨rfl, hF2⟩
      replace hF := (hF.trans hF2).alloc (.cells #[.int .u32 p, .int .u8 k] 24)
      have P := pc_new w2 p k 24
      clear hF2 hC1
      go_wp2_with fail
      generalize w2.alloc (.cells #[.int .u32 p, .int .u8 k] 24) = v2 at hF P ⊢
      generalize w2.heap.size = gp at P ⊢
      refine (hC2 _).mono ?_
      rintro e w3 ⟨rfl, hF3⟩
      have Q := pc_new w3 p k 24
      replace P := (P.fr hF3 (by simp)).fr ((Fr.refl [] _).alloc (.cells #[.int .u32 p, .int .u8 k] 24)) (by simp)
      replace hF := (hF.trans hF3).alloc (.cells #[.int .u32 p, .int .u8 k] 24)
      clear hF3 hC2
      have p0 := P.c0
      have p1 := P.c1
      have q0 := Q.c0
      have q1 := Q.c1
      go_wp2_with fail
      clear p0 p1 q0 q1
      have p0 := xt_cell P.c0
      have p1 := xt_cell P.c1
      have q0 := xt_cell Q.c0
      have q1 := xt_cell Q.c1
      refine wp_region_xt (by kernel_rfl) (by kernel_rfl) ?_
      repeat (go_big_quiet_step ((first
        | (go_at_call_has 16 ([Value.agg #[Value.int .u32 p, Value.int .u8 k]]); exact Calls.xt (fun W' _ => r1 W') _)
        | (go_at_call_has 16 ([Value.agg #[Value.int .u32 p, Value.int .u8 k]]); exact Calls.xt (fun W' _ => r2 W') _))))
      refine wpQuiet_nil ?_
      rintro v5 ⟨y, rfl⟩
      replace hF := hF.trans (xt_fr y)
      replace P := P.fr (xt_fr y) (by simp)
      replace Q := Q.fr (xt_fr y) (by simp)
      clear p0 p1 q0 q1
      generalize xt y = v5 at hF P Q ⊢
      have p0 := P.c0
      have p1 := P.c1
      have q0 := Q.c0
      have q1 := Q.c1
      go_wp2_with fail
      clear p0 p1 q0 q1
      refine (r3 _).mono ?_
      rintro e v6 ⟨rfl, hv⟩
      replace hF := hF.trans hv
      replace P := P.fr hv (by simp)
      replace Q := Q.fr hv (by simp)
      clear hv
      have p0 := P.c0
      have p1 := P.c1
      have q0 := Q.c0
      have q1 := Q.c1
      go_wp2_with fail
      clear p0 p1 q0 q1
      refine (r4 _).mono ?_
      rintro e v6 ⟨rfl, hv⟩
      replace hF := hF.trans hv
      replace P := P.fr hv (by simp)
      replace Q := Q.fr hv (by simp)
      clear hv
      have p0 := P.c0
      have p1 := P.c1
      have q0 := Q.c0
      have q1 := Q.c1
      go_wp2_with fail
      clear p0 p1 q0 q1
      refine (r5 _).mono ?_
      rintro e v6 ⟨rfl, hv⟩
      replace hF := hF.trans hv
      replace P := P.fr hv (by simp)
      replace Q := Q.fr hv (by simp)
      clear hv
      have p0 := P.c0
      have p1 := P.c1
      have q0 := Q.c0
      have q1 := Q.c1
      go_wp2_with fail
      clear p0 p1 q0 q1
      refine (r6 _).mono ?_
      rintro e v6 ⟨rfl, hv⟩
      replace hF := hF.trans hv
      replace P := P.fr hv (by simp)
      replace Q := Q.fr hv (by simp)
      clear hv
      have p0 := P.c0
      have p1 := P.c1
      have q0 := Q.c0
      have q1 := Q.c1
      go_wp2_with fail
      clear p0 p1 q0 q1
      refine (r7 _).mono ?_
      rintro e v6 ⟨rfl, hv⟩
      replace hF := hF.trans hv
      replace P := P.fr hv (by simp)
      replace Q := Q.fr hv (by simp)
      clear hv
      have p0 := P.c0
      have p1 := P.c1
      have q0 := Q.c0
      have q1 := Q.c1
      go_wp2_with fail
      clear p0 p1 q0 q1
      refine (r8 _).mono ?_
      rintro e v6 ⟨rfl, hv⟩
      replace hF := hF.trans hv
      replace P := P.fr hv (by simp)
      replace Q := Q.fr hv (by simp)
      clear hv
      have p0 := P.c0
      have p1 := P.c1
      have q0 := Q.c0
      have q1 := Q.c1
      go_wp2_with fail
      clear p0 p1 q0 q1
      have R := rd_new' v6 [.int .u32 a, .int .u32 b, .int .u32 o, .int .u32 p, .int .u32 p] 22
      replace hF := hF.alloc (.cells #[.int .u32 a, .int .u32 b, .int .u32 o, .int .u32 p, .int .u32 p] 22)
      replace P := P.fr ((Fr.refl [] v6).alloc (.cells #[.int .u32 a, .int .u32 b, .int .u32 o, .int .u32 p, .int .u32 p] 22)) (by simp)
      replace Q := Q.fr ((Fr.refl [] v6).alloc (.cells #[.int .u32 a, .int .u32 b, .int .u32 o, .int .u32 p, .int .u32 p] 22)) (by simp)
      generalize v6.alloc (.cells #[.int .u32 a, .int .u32 b, .int .u32 o, .int .u32 p, .int .u32 p] 22) = v7 at hF P Q R ⊢
      generalize v6.heap.size = gr at R ⊢
      have hE : ∀ j, j < 5 → ∃ X : Nat, X < 4294967296 ∧ v7.cell? ⟨gr, j, none⟩ = some (.int .u32 X) := by
        intro j hj
        have c0 := rdc R 0 _ rfl
        have c1 := rdc R 1 _ rfl
        have c2 := rdc R 2 _ rfl
        have c3 := rdc R 3 _ rfl
        have c4 := rdc R 4 _ rfl
        match j, hj with
        | 0, _ => exact ⟨a, ha, c0⟩
        | 1, _ => exact ⟨b, hb, c1⟩
        | 2, _ => exact ⟨o, ho, c2⟩
        | 3, _ => exact ⟨p, hpl, c3⟩
        | 4, _ => exact ⟨p, hql, c4⟩
      clear R r1 r2 r3 r4 r5 r6 r7 r8 hlk
      go_loopw [118] (fun i wr => ∃ j : Nat, j ≤ 5 ∧ i = .int .i64 j ∧ Fr [] v7 wr) (fun i _ => 5 - (intOf i).toNat)
      case atStart => exact ⟨0, Nat.zero_le _, rfl, Fr.refl _ _⟩
      case round =>
        obtain ⟨j, hj, rfl, hFr⟩ := hrel
        by_cases hlt : j < 5
        · obtain ⟨X, hX, hc0⟩ := hE j hlt
          have hc := hFr.cell hc0 (by simp)
          have p0 := (P.fr hFr (by simp)).c0
          have p1 := (P.fr hFr (by simp)).c1
          clear hc0
          by_cases hx : PH p k X
          · have d1 := fun W => rP X hX W
            rw [decide_eq_true hx] at d1
            have d2 := fun W => rQ X hX W
            rw [decide_eq_true (pi_has h1 hx)] at d2
            go_wp2_with fail
            refine (d1 _).mono ?_
            rintro e v8 ⟨rfl, hv⟩
            replace hFr := hFr.trans hv
            clear hv
            have q0 := (Q.fr hFr (by simp)).c0
            have q1 := (Q.fr hFr (by simp)).c1
            go_wp2_with fail
            refine (d2 _).mono ?_
            rintro e v8 ⟨rfl, hv⟩
            replace hFr := hFr.trans hv
            clear hv
            have q0 := (Q.fr hFr (by simp)).c0
            have q1 := (Q.fr hFr (by simp)).c1
            go_wp2_with fail
            go_roundw
            case rel => exact ⟨j + 1, by omega, by go_num, hFr⟩
            case measure => simp [intOf]; omega
          · have d1 := fun W => rP X hX W
            rw [decide_eq_false hx] at d1
            go_wp2_with fail
            refine (d1 _).mono ?_
            rintro e v8 ⟨rfl, hv⟩
            replace hFr := hFr.trans hv
            clear hv
            have q0 := (Q.fr hFr (by simp)).c0
            have q1 := (Q.fr hFr (by simp)).c1
            go_wp2_with fail
            go_roundw
            case rel => exact ⟨j + 1, by omega, by go_num, hFr⟩
            case measure => simp [intOf]; omega
        · obtain rfl : j = 5 := by omega
          go_wp2_with fail
          go_ret
          exact ⟨rfl, hF.trans hFr⟩
    · have hlk : ¬ (k : Int) < (l : Int) := by have := h1.2.1; omega
      have hlk2 : ¬ k < l := by have := h1.2.1; omega
      have hlk3 : decide (k < l) = false := decide_eq_false hlk2
      rw [decide_eq_true h1] at r1
      rw [decide_eq_false h2] at r2
      rw [decide_eq_true h1, decide_eq_false h2] at r3
      rw [decide_eq_false h2, decide_eq_true h1] at r4
      go_enter Tryd.func7, Tryd.ntmps7
      go_wp2_with fail
      refine (awake_any _ hV).mono ?_
      rintro e w1 ⟨rfl, hF⟩
      clear hV
      go_wp2_with fail
      refine (hC1 _).mono ?_
      rintro e w2 ⟨rfl, hF2⟩
      replace hF := (hF.trans hF2).alloc (.cells #[.int .u32 p, .int .u8 k] 24)
      have P := pc_new w2 p k 24
      clear hF2 hC1
      go_wp2_with fail
      generalize w2.alloc (.cells #[.int .u32 p, .int .u8 k] 24) = v2 at hF P ⊢
      generalize w2.heap.size = gp at P ⊢
      refine (hC2 _).mono ?_
      rintro e w3 ⟨rfl, hF3⟩
      have Q := pc_new w3 q l 24
      replace P := (P.fr hF3 (by simp)).fr ((Fr.refl [] _).alloc (.cells #[.int .u32 q, .int .u8 l] 24)) (by simp)
      replace hF := (hF.trans hF3).alloc (.cells #[.int .u32 q, .int .u8 l] 24)
      clear hF3 hC2
      have p0 := P.c0
      have p1 := P.c1
      have q0 := Q.c0
      have q1 := Q.c1
      go_wp2_with fail
      clear p0 p1 q0 q1
      have p0 := xt_cell P.c0
      have p1 := xt_cell P.c1
      have q0 := xt_cell Q.c0
      have q1 := xt_cell Q.c1
      refine wp_region_xt (by kernel_rfl) (by kernel_rfl) ?_
      repeat (go_big_quiet_step ((first
        | (go_at_call_has 16 ([Value.agg #[Value.int .u32 q, Value.int .u8 l]]); exact Calls.xt (fun W' _ => r1 W') _)
        | (go_at_call_has 16 ([Value.agg #[Value.int .u32 p, Value.int .u8 k]]); exact Calls.xt (fun W' _ => r2 W') _))))
      refine wpQuiet_nil ?_
      rintro v5 ⟨y, rfl⟩
      replace hF := hF.trans (xt_fr y)
      replace P := P.fr (xt_fr y) (by simp)
      replace Q := Q.fr (xt_fr y) (by simp)
      clear p0 p1 q0 q1
      generalize xt y = v5 at hF P Q ⊢
      have p0 := P.c0
      have p1 := P.c1
      have q0 := Q.c0
      have q1 := Q.c1
      go_wp2_with fail
      clear p0 p1 q0 q1
      refine (r3 _).mono ?_
      rintro e v6 ⟨rfl, hv⟩
      replace hF := hF.trans hv
      replace P := P.fr hv (by simp)
      replace Q := Q.fr hv (by simp)
      clear hv
      have p0 := P.c0
      have p1 := P.c1
      have q0 := Q.c0
      have q1 := Q.c1
      go_wp2_with fail
      clear p0 p1 q0 q1
      refine (r4 _).mono ?_
      rintro e v6 ⟨rfl, hv⟩
      replace hF := hF.trans hv
      replace P := P.fr hv (by simp)
      replace Q := Q.fr hv (by simp)
      clear hv
      have p0 := P.c0
      have p1 := P.c1
      have q0 := Q.c0
      have q1 := Q.c1
      go_wp2_with fail
      clear p0 p1 q0 q1
      refine (r5 _).mono ?_
      rintro e v6 ⟨rfl, hv⟩
      replace hF := hF.trans hv
      replace P := P.fr hv (by simp)
      replace Q := Q.fr hv (by simp)
      clear hv
      have p0 := P.c0
      have p1 := P.c1
      have q0 := Q.c0
      have q1 := Q.c1
      go_wp2_with fail
      clear p0 p1 q0 q1
      refine (r6 _).mono ?_
      rintro e v6 ⟨rfl, hv⟩
      replace hF := hF.trans hv
      replace P := P.fr hv (by simp)
      replace Q := Q.fr hv (by simp)
      clear hv
      have p0 := P.c0
      have p1 := P.c1
      have q0 := Q.c0
      have q1 := Q.c1
      go_wp2_with fail
      clear p0 p1 q0 q1
      refine (r7 _).mono ?_
      rintro e v6 ⟨rfl, hv⟩
      replace hF := hF.trans hv
      replace P := P.fr hv (by simp)
      replace Q := Q.fr hv (by simp)
      clear hv
      have p0 := P.c0
      have p1 := P.c1
      have q0 := Q.c0
      have q1 := Q.c1
      go_wp2_with fail
      clear p0 p1 q0 q1
      refine (r8 _).mono ?_
      rintro e v6 ⟨rfl, hv⟩
      replace hF := hF.trans hv
      replace P := P.fr hv (by simp)
      replace Q := Q.fr hv (by simp)
      clear hv
      have p0 := P.c0
      have p1 := P.c1
      have q0 := Q.c0
      have q1 := Q.c1
      go_wp2_with fail
      clear p0 p1 q0 q1
      have R := rd_new' v6 [.int .u32 a, .int .u32 b, .int .u32 o, .int .u32 p, .int .u32 q] 22
      replace hF := hF.alloc (.cells #[.int .u32 a, .int .u32 b, .int .u32 o, .int .u32 p, .int .u32 q] 22)
      replace P := P.fr ((Fr.refl [] v6).alloc (.cells #[.int .u32 a, .int .u32 b, .int .u32 o, .int .u32 p, .int .u32 q] 22)) (by simp)
      replace Q := Q.fr ((Fr.refl [] v6).alloc (.cells #[.int .u32 a, .int .u32 b, .int .u32 o, .int .u32 p, .int .u32 q] 22)) (by simp)
      generalize v6.alloc (.cells #[.int .u32 a, .int .u32 b, .int .u32 o, .int .u32 p, .int .u32 q] 22) = v7 at hF P Q R ⊢
      generalize v6.heap.size = gr at R ⊢
      have hE : ∀ j, j < 5 → ∃ X : Nat, X < 4294967296 ∧ v7.cell? ⟨gr, j, none⟩ = some (.int .u32 X) := by
        intro j hj
        have c0 := rdc R 0 _ rfl
        have c1 := rdc R 1 _ rfl
        have c2 := rdc R 2 _ rfl
        have c3 := rdc R 3 _ rfl
        have c4 := rdc R 4 _ rfl
        match j, hj with
        | 0, _ => exact ⟨a, ha, c0⟩
        | 1, _ => exact ⟨b, hb, c1⟩
        | 2, _ => exact ⟨o, ho, c2⟩
        | 3, _ => exact ⟨p, hpl, c3⟩
        | 4, _ => exact ⟨q, hql, c4⟩
      clear R r1 r2 r3 r4 r5 r6 r7 r8 hlk
      go_loopw [118] (fun i wr => ∃ j : Nat, j ≤ 5 ∧ i = .int .i64 j ∧ Fr [] v7 wr) (fun i _ => 5 - (intOf i).toNat)
      case atStart => exact ⟨0, Nat.zero_le _, rfl, Fr.refl _ _⟩
      case round =>
        obtain ⟨j, hj, rfl, hFr⟩ := hrel
        by_cases hlt : j < 5
        · obtain ⟨X, hX, hc0⟩ := hE j hlt
          have hc := hFr.cell hc0 (by simp)
          have p0 := (P.fr hFr (by simp)).c0
          have p1 := (P.fr hFr (by simp)).c1
          clear hc0
          by_cases hx : PH p k X
          · have d1 := fun W => rP X hX W
            rw [decide_eq_true hx] at d1
            have d2 := fun W => rQ X hX W
            rw [decide_eq_true (pi_has h1 hx)] at d2
            go_wp2_with fail
            refine (d1 _).mono ?_
            rintro e v8 ⟨rfl, hv⟩
            replace hFr := hFr.trans hv
            clear hv
            have q0 := (Q.fr hFr (by simp)).c0
            have q1 := (Q.fr hFr (by simp)).c1
            go_wp2_with fail
            refine (d2 _).mono ?_
            rintro e v8 ⟨rfl, hv⟩
            replace hFr := hFr.trans hv
            clear hv
            have q0 := (Q.fr hFr (by simp)).c0
            have q1 := (Q.fr hFr (by simp)).c1
            go_wp2_with fail
            go_roundw
            case rel => exact ⟨j + 1, by omega, by go_num, hFr⟩
            case measure => simp [intOf]; omega
          · have d1 := fun W => rP X hX W
            rw [decide_eq_false hx] at d1
            go_wp2_with fail
            refine (d1 _).mono ?_
            rintro e v8 ⟨rfl, hv⟩
            replace hFr := hFr.trans hv
            clear hv
            have q0 := (Q.fr hFr (by simp)).c0
            have q1 := (Q.fr hFr (by simp)).c1
            go_wp2_with fail
            go_roundw
            case rel => exact ⟨j + 1, by omega, by go_num, hFr⟩
            case measure => simp [intOf]; omega
        · obtain rfl : j = 5 := by omega
          go_wp2_with fail
          go_ret
          exact ⟨rfl, hF.trans hFr⟩
  · by_cases h2 : PI q l p k
    · have hlk : True := trivial
      rw [decide_eq_false h1] at r1
      rw [decide_eq_true h2] at r2
      rw [decide_eq_false h1, decide_eq_true h2] at r3
      rw [decide_eq_true h2, decide_eq_false h1] at r4
      go_enter Tryd.func7, Tryd.ntmps7
      go_wp2_with fail
      refine (awake_any _ hV).mono ?_
      rintro e w1 ⟨rfl, hF⟩
      clear hV
      go_wp2_with fail
      refine (hC1 _).mono ?_
      rintro e w2 ⟨rfl, hF2⟩
      replace hF := (hF.trans hF2).alloc (.cells #[.int .u32 p, .int .u8 k] 24)
      have P := pc_new w2 p k 24
      clear hF2 hC1
      go_wp2_with fail
      generalize w2.alloc (.cells #[.int .u32 p, .int .u8 k] 24) = v2 at hF P ⊢
      generalize w2.heap.size = gp at P ⊢
      refine (hC2 _).mono ?_
      rintro e w3 ⟨rfl, hF3⟩
      have Q := pc_new w3 q l 24
      replace P := (P.fr hF3 (by simp)).fr ((Fr.refl [] _).alloc (.cells #[.int .u32 q, .int .u8 l] 24)) (by simp)
      replace hF := (hF.trans hF3).alloc (.cells #[.int .u32 q, .int .u8 l] 24)
      clear hF3 hC2
      have p0 := P.c0
      have p1 := P.c1
      have q0 := Q.c0
      have q1 := Q.c1
      go_wp2_with fail
      clear p0 p1 q0 q1
      have p0 := xt_cell P.c0
      have p1 := xt_cell P.c1
      have q0 := xt_cell Q.c0
      have q1 := xt_cell Q.c1
      refine wp_region_xt (by kernel_rfl) (by kernel_rfl) ?_
      repeat (go_big_quiet_step ((first
        | (go_at_call_has 16 ([Value.agg #[Value.int .u32 q, Value.int .u8 l]]); exact Calls.xt (fun W' _ => r1 W') _)
        | (go_at_call_has 16 ([Value.agg #[Value.int .u32 p, Value.int .u8 k]]); exact Calls.xt (fun W' _ => r2 W') _))))
      refine wpQuiet_nil ?_
      rintro v5 ⟨y, rfl⟩
      replace hF := hF.trans (xt_fr y)
      replace P := P.fr (xt_fr y) (by simp)
      replace Q := Q.fr (xt_fr y) (by simp)
      clear p0 p1 q0 q1
      generalize xt y = v5 at hF P Q ⊢
      have p0 := P.c0
      have p1 := P.c1
      have q0 := Q.c0
      have q1 := Q.c1
      go_wp2_with fail
      clear p0 p1 q0 q1
      refine (r3 _).mono ?_
      rintro e v6 ⟨rfl, hv⟩
      replace hF := hF.trans hv
      replace P := P.fr hv (by simp)
      replace Q := Q.fr hv (by simp)
      clear hv
      have p0 := P.c0
      have p1 := P.c1
      have q0 := Q.c0
      have q1 := Q.c1
      go_wp2_with fail
      clear p0 p1 q0 q1
      refine (r4 _).mono ?_
      rintro e v6 ⟨rfl, hv⟩
      replace hF := hF.trans hv
      replace P := P.fr hv (by simp)
      replace Q := Q.fr hv (by simp)
      clear hv
      have p0 := P.c0
      have p1 := P.c1
      have q0 := Q.c0
      have q1 := Q.c1
      go_wp2_with fail
      clear p0 p1 q0 q1
      refine (r5 _).mono ?_
      rintro e v6 ⟨rfl, hv⟩
      replace hF := hF.trans hv
      replace P := P.fr hv (by simp)
      replace Q := Q.fr hv (by simp)
      clear hv
      have p0 := P.c0
      have p1 := P.c1
      have q0 := Q.c0
      have q1 := Q.c1
      go_wp2_with fail
      clear p0 p1 q0 q1
      refine (r6 _).mono ?_
      rintro e v6 ⟨rfl, hv⟩
      replace hF := hF.trans hv
      replace P := P.fr hv (by simp)
      replace Q := Q.fr hv (by simp)
      clear hv
      have p0 := P.c0
      have p1 := P.c1
      have q0 := Q.c0
      have q1 := Q.c1
      go_wp2_with fail
      clear p0 p1 q0 q1
      refine (r7 _).mono ?_
      rintro e v6 ⟨rfl, hv⟩
      replace hF := hF.trans hv
      replace P := P.fr hv (by simp)
      replace Q := Q.fr hv (by simp)
      clear hv
      have p0 := P.c0
      have p1 := P.c1
      have q0 := Q.c0
      have q1 := Q.c1
      go_wp2_with fail
      clear p0 p1 q0 q1
      refine (r8 _).mono ?_
      rintro e v6 ⟨rfl, hv⟩
      replace hF := hF.trans hv
      replace P := P.fr hv (by simp)
      replace Q := Q.fr hv (by simp)
      clear hv
      have p0 := P.c0
      have p1 := P.c1
      have q0 := Q.c0
      have q1 := Q.c1
      go_wp2_with fail
      clear p0 p1 q0 q1
      have R := rd_new' v6 [.int .u32 a, .int .u32 b, .int .u32 o, .int .u32 p, .int .u32 q] 22
      replace hF := hF.alloc (.cells #[.int .u32 a, .int .u32 b, .int .u32 o, .int .u32 p, .int .u32 q] 22)
      replace P := P.fr ((Fr.refl [] v6).alloc (.cells #[.int .u32 a, .int .u32 b, .int .u32 o, .int .u32 p, .int .u32 q] 22)) (by simp)
      replace Q := Q.fr ((Fr.refl [] v6).alloc (.cells #[.int .u32 a, .int .u32 b, .int .u32 o, .int .u32 p, .int .u32 q] 22)) (by simp)
      generalize v6.alloc (.cells #[.int .u32 a, .int .u32 b, .int .u32 o, .int .u32 p, .int .u32 q] 22) = v7 at hF P Q R ⊢
      generalize v6.heap.size = gr at R ⊢
      have hE : ∀ j, j < 5 → ∃ X : Nat, X < 4294967296 ∧ v7.cell? ⟨gr, j, none⟩ = some (.int .u32 X) := by
        intro j hj
        have c0 := rdc R 0 _ rfl
        have c1 := rdc R 1 _ rfl
        have c2 := rdc R 2 _ rfl
        have c3 := rdc R 3 _ rfl
        have c4 := rdc R 4 _ rfl
        match j, hj with
        | 0, _ => exact ⟨a, ha, c0⟩
        | 1, _ => exact ⟨b, hb, c1⟩
        | 2, _ => exact ⟨o, ho, c2⟩
        | 3, _ => exact ⟨p, hpl, c3⟩
        | 4, _ => exact ⟨q, hql, c4⟩
      clear R r1 r2 r3 r4 r5 r6 r7 r8 hlk
      go_loopw [118] (fun i wr => ∃ j : Nat, j ≤ 5 ∧ i = .int .i64 j ∧ Fr [] v7 wr) (fun i _ => 5 - (intOf i).toNat)
      case atStart => exact ⟨0, Nat.zero_le _, rfl, Fr.refl _ _⟩
      case round =>
        obtain ⟨j, hj, rfl, hFr⟩ := hrel
        by_cases hlt : j < 5
        · obtain ⟨X, hX, hc0⟩ := hE j hlt
          have hc := hFr.cell hc0 (by simp)
          have p0 := (P.fr hFr (by simp)).c0
          have p1 := (P.fr hFr (by simp)).c1
          clear hc0
          go_wp2_with fail
          go_roundw
          case rel => exact ⟨j + 1, by omega, by go_num, hFr⟩
          case measure => simp [intOf]; omega
        · obtain rfl : j = 5 := by omega
          go_wp2_with fail
          go_ret
          exact ⟨rfl, hF.trans hFr⟩
    · have hlk : True := trivial
      rw [decide_eq_false h1] at r1
      rw [decide_eq_false h2] at r2
      rw [decide_eq_false h1, decide_eq_false h2] at r3
      rw [decide_eq_false h2, decide_eq_false h1] at r4
      go_enter Tryd.func7, Tryd.ntmps7
      go_wp2_with fail
      refine (awake_any _ hV).mono ?_
      rintro e w1 ⟨rfl, hF⟩
      clear hV
      go_wp2_with fail
      refine (hC1 _).mono ?_
      rintro e w2 ⟨rfl, hF2⟩
      replace hF := (hF.trans hF2).alloc (.cells #[.int .u32 p, .int .u8 k] 24)
      have P := pc_new w2 p k 24
      clear hF2 hC1
      go_wp2_with fail
      generalize w2.alloc (.cells #[.int .u32 p, .int .u8 k] 24) = v2 at hF P ⊢
      generalize w2.heap.size = gp at P ⊢
      refine (hC2 _).mono ?_
      rintro e w3 ⟨rfl, hF3⟩
      have Q := pc_new w3 q l 24
      replace P := (P.fr hF3 (by simp)).fr ((Fr.refl [] _).alloc (.cells #[.int .u32 q, .int .u8 l] 24)) (by simp)
      replace hF := (hF.trans hF3).alloc (.cells #[.int .u32 q, .int .u8 l] 24)
      clear hF3 hC2
      have p0 := P.c0
      have p1 := P.c1
      have q0 := Q.c0
      have q1 := Q.c1
      go_wp2_with fail
      clear p0 p1 q0 q1
      have p0 := xt_cell P.c0
      have p1 := xt_cell P.c1
      have q0 := xt_cell Q.c0
      have q1 := xt_cell Q.c1
      refine wp_region_xt (by kernel_rfl) (by kernel_rfl) ?_
      repeat (go_big_quiet_step ((first
        | (go_at_call_has 16 ([Value.agg #[Value.int .u32 q, Value.int .u8 l]]); exact Calls.xt (fun W' _ => r1 W') _)
        | (go_at_call_has 16 ([Value.agg #[Value.int .u32 p, Value.int .u8 k]]); exact Calls.xt (fun W' _ => r2 W') _))))
      refine wpQuiet_nil ?_
      rintro v5 ⟨y, rfl⟩
      replace hF := hF.trans (xt_fr y)
      replace P := P.fr (xt_fr y) (by simp)
      replace Q := Q.fr (xt_fr y) (by simp)
      clear p0 p1 q0 q1
      generalize xt y = v5 at hF P Q ⊢
      have p0 := P.c0
      have p1 := P.c1
      have q0 := Q.c0
      have q1 := Q.c1
      go_wp2_with fail
      clear p0 p1 q0 q1
      refine (r3 _).mono ?_
      rintro e v6 ⟨rfl, hv⟩
      replace hF := hF.trans hv
      replace P := P.fr hv (by simp)
      replace Q := Q.fr hv (by simp)
      clear hv
      have p0 := P.c0
      have p1 := P.c1
      have q0 := Q.c0
      have q1 := Q.c1
      go_wp2_with fail
      clear p0 p1 q0 q1
      refine (r4 _).mono ?_
      rintro e v6 ⟨rfl, hv⟩
      replace hF := hF.trans hv
      replace P := P.fr hv (by simp)
      replace Q := Q.fr hv (by simp)
      clear hv
      have p0 := P.c0
      have p1 := P.c1
      have q0 := Q.c0
      have q1 := Q.c1
      go_wp2_with fail
      clear p0 p1 q0 q1
      refine (r5 _).mono ?_
      rintro e v6 ⟨rfl, hv⟩
      replace hF := hF.trans hv
      replace P := P.fr hv (by simp)
      replace Q := Q.fr hv (by simp)
      clear hv
      have p0 := P.c0
      have p1 := P.c1
      have q0 := Q.c0
      have q1 := Q.c1
      go_wp2_with fail
      clear p0 p1 q0 q1
      refine (r6 _).mono ?_
      rintro e v6 ⟨rfl, hv⟩
      replace hF := hF.trans hv
      replace P := P.fr hv (by simp)
      replace Q := Q.fr hv (by simp)
      clear hv
      have p0 := P.c0
      have p1 := P.c1
      have q0 := Q.c0
      have q1 := Q.c1
      go_wp2_with fail
      clear p0 p1 q0 q1
      refine (r7 _).mono ?_
      rintro e v6 ⟨rfl, hv⟩
      replace hF := hF.trans hv
      replace P := P.fr hv (by simp)
      replace Q := Q.fr hv (by simp)
      clear hv
      have p0 := P.c0
      have p1 := P.c1
      have q0 := Q.c0
      have q1 := Q.c1
      go_wp2_with fail
      clear p0 p1 q0 q1
      refine (r8 _).mono ?_
      rintro e v6 ⟨rfl, hv⟩
      replace hF := hF.trans hv
      replace P := P.fr hv (by simp)
      replace Q := Q.fr hv (by simp)
      clear hv
      have p0 := P.c0
      have p1 := P.c1
      have q0 := Q.c0
      have q1 := Q.c1
      go_wp2_with fail
      clear p0 p1 q0 q1
      have R := rd_new' v6 [.int .u32 a, .int .u32 b, .int .u32 o, .int .u32 p, .int .u32 q] 22
      replace hF := hF.alloc (.cells #[.int .u32 a, .int .u32 b, .int .u32 o, .int .u32 p, .int .u32 q] 22)
      replace P := P.fr ((Fr.refl [] v6).alloc (.cells #[.int .u32 a, .int .u32 b, .int .u32 o, .int .u32 p, .int .u32 q] 22)) (by simp)
      replace Q := Q.fr ((Fr.refl [] v6).alloc (.cells #[.int .u32 a, .int .u32 b, .int .u32 o, .int .u32 p, .int .u32 q] 22)) (by simp)
      generalize v6.alloc (.cells #[.int .u32 a, .int .u32 b, .int .u32 o, .int .u32 p, .int .u32 q] 22) = v7 at hF P Q R ⊢
      generalize v6.heap.size = gr at R ⊢
      have hE : ∀ j, j < 5 → ∃ X : Nat, X < 4294967296 ∧ v7.cell? ⟨gr, j, none⟩ = some (.int .u32 X) := by
        intro j hj
        have c0 := rdc R 0 _ rfl
        have c1 := rdc R 1 _ rfl
        have c2 := rdc R 2 _ rfl
        have c3 := rdc R 3 _ rfl
        have c4 := rdc R 4 _ rfl
        match j, hj with
        | 0, _ => exact ⟨a, ha, c0⟩
        | 1, _ => exact ⟨b, hb, c1⟩
        | 2, _ => exact ⟨o, ho, c2⟩
        | 3, _ => exact ⟨p, hpl, c3⟩
        | 4, _ => exact ⟨q, hql, c4⟩
      clear R r1 r2 r3 r4 r5 r6 r7 r8 hlk
      go_loopw [118] (fun i wr => ∃ j : Nat, j ≤ 5 ∧ i = .int .i64 j ∧ Fr [] v7 wr) (fun i _ => 5 - (intOf i).toNat)
      case atStart => exact ⟨0, Nat.zero_le _, rfl, Fr.refl _ _⟩
      case round =>
        obtain ⟨j, hj, rfl, hFr⟩ := hrel
        by_cases hlt : j < 5
        · obtain ⟨X, hX, hc0⟩ := hE j hlt
          have hc := hFr.cell hc0 (by simp)
          have p0 := (P.fr hFr (by simp)).c0
          have p1 := (P.fr hFr (by simp)).c1
          clear hc0
          by_cases hx : PH p k X
          · have d1 := fun W => rP X hX W
            rw [decide_eq_true hx] at d1
            have d2 := fun W => rQ X hX W
            rw [decide_eq_false (fun hy => (Nat.le_total l k).elim (fun h => h1 (meet_pi hx hy h)) (fun h => h2 (meet_pi hy hx h)))] at d2
            go_wp2_with fail
            refine (d1 _).mono ?_
            rintro e v8 ⟨rfl, hv⟩
            replace hFr := hFr.trans hv
            clear hv
            have q0 := (Q.fr hFr (by simp)).c0
            have q1 := (Q.fr hFr (by simp)).c1
            go_wp2_with fail
            refine (d2 _).mono ?_
            rintro e v8 ⟨rfl, hv⟩
            replace hFr := hFr.trans hv
            clear hv
            have q0 := (Q.fr hFr (by simp)).c0
            have q1 := (Q.fr hFr (by simp)).c1
            go_wp2_with fail
            go_roundw
            case rel => exact ⟨j + 1, by omega, by go_num, hFr⟩
            case measure => simp [intOf]; omega
          · have d1 := fun W => rP X hX W
            rw [decide_eq_false hx] at d1
            go_wp2_with fail
            refine (d1 _).mono ?_
            rintro e v8 ⟨rfl, hv⟩
            replace hFr := hFr.trans hv
            clear hv
            have q0 := (Q.fr hFr (by simp)).c0
            have q1 := (Q.fr hFr (by simp)).c1
            go_wp2_with fail
            go_roundw
            case rel => exact ⟨j + 1, by omega, by go_num, hFr⟩
            case measure => simp [intOf]; omega
        · obtain rfl : j = 5 := by omega
          go_wp2_with fail
          go_ret
          exact ⟨rfl, hF.trans hFr⟩
end Go.Proofs.YticopkegbiemjaaDoor
