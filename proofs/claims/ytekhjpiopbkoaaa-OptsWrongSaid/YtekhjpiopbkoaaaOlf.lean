/- The leaves of opts: an entry of a stamp, pointers, entries and their pointer. -/
import Derived.Test.YtekhjpiopbkoaaaFx
import Derived.Test.YtekhjpiopbkoaaaAfl
namespace Go.Proofs.Ytekhjpiopbkoaaa
open Go.RowKit
set_option linter.unusedVariables false
set_option maxRecDepth 100000

def bt (xs : List UInt8) (k : Nat) : Nat := (xs.getD k 0).toNat
theorem bt_lt (xs : List UInt8) (k : Nat) : bt xs k < 256 := (xs.getD k 0).toNat_lt
theorem bt_get {xs : List UInt8} {k : Nat} (h : k < xs.length) : ∃ x, xs[k]? = some x ∧ x.toNat = bt xs k :=
  ⟨xs[k], List.getElem?_eq_getElem h, by simp [bt, List.getD, List.getElem?_eq_getElem h]⟩
theorem bt_cell {w : World} {b o n : Nat} {xs : List UInt8} (h : Rd w (some ⟨b, o, none⟩) (B8 xs)) {k : Nat} (hk : k < xs.length) : w.cell? ⟨b, o + k, none⟩ = some (.int .u8 (bt xs k : Nat)) := by
  obtain ⟨x, hx, ex⟩ := bt_get hk
  rw [rdj h k x hx, ex]
/-- How many bytes an entry of a stamp has. -/
def stampN (xs : List UInt8) : Nat := if xs.length < 2 then 0 else if bt xs 1 % 16 = 0 then 4 else if bt xs 1 % 16 = 1 ∨ bt xs 1 % 16 = 3 then 8 else 0
theorem stampN_le (xs : List UInt8) : stampN xs ≤ 8 := by unfold stampN; split <;> (try split) <;> (try split) <;> omega
set_option maxHeartbeats 400000 in
theorem stamp_any (A : Option Addr) (n c : Nat) (xs : List UInt8) (w : World) (hl : xs.length = n) (hrd : Rd w A (B8 xs)) (hn : n ≤ 140737488351232) :
    Calls Try.prog 48 #[.slice A n c] w fun e w' => e = .returned (.int .i64 (stampN xs : Nat)) ∧ w = w' := by
  by_cases h2 : n < 2
  · have e : stampN xs = 0 := by unfold stampN; rw [if_pos (by omega)]
    rw [e]
    have h2i : (n : Int) < 2 := by omega
    clear hl hrd e
    go_enter Try.func48, Try.ntmps48
    go_wp2
    go_ret
    exact ⟨rfl, rfl⟩
  · have h2i : ¬ (n : Int) < 2 := by omega
    obtain ⟨b, o, rfl⟩ := rd_addr8 hrd (by omega)
    have q1 := bt_cell (n := n) hrd (k := 1) (by omega)
    have hb := bt_lt xs 1
    obtain ⟨s, hs⟩ : ∃ s, s = stampN xs := ⟨_, rfl⟩
    rw [← hs]
    unfold stampN at hs
    rw [if_neg (by omega)] at hs
    generalize bt xs 1 = v at *
    obtain ⟨r, hr⟩ : ∃ r, r = v % 16 := ⟨_, rfl⟩
    rw [← hr] at hs
    have t1 : (v : Int).tmod 16 = (r : Int) := by rw [Int.tmod_eq_emod_of_nonneg (by omega)]; omega
    have t2 : (v : Int) % 16 = (r : Int) := by omega
    have i1 : (1 : Int) < (n : Int) := by omega
    have hr16 : r < 16 := by omega
    clear hr hl hrd
    by_cases r0 : r = 0
    · rw [if_pos r0] at hs
      have e0 : ((r : Int) == 0) = true := by rw [r0]; rfl
      clear r0
      subst hs
      go_enter Try.func48, Try.ntmps48
      go_wp2
      go_ret
      exact ⟨rfl, rfl⟩
    · rw [if_neg r0] at hs
      have e0 : ((r : Int) == 0) = false := by rw [beq_eq_false_iff_ne]; omega
      by_cases r1 : r = 1
      · rw [if_pos (.inl r1)] at hs
        have e1 : ((r : Int) == 1) = true := by rw [r1]; rfl
        clear r0 r1
        subst hs
        go_enter Try.func48, Try.ntmps48
        go_wp2
        go_ret
        exact ⟨rfl, rfl⟩
      · have e1 : ((r : Int) == 1) = false := by rw [beq_eq_false_iff_ne]; omega
        by_cases r3 : r = 3
        · rw [if_pos (.inr r3)] at hs
          have e3 : ((r : Int) == 3) = true := by rw [r3]; rfl
          clear r0 r1 r3
          subst hs
          go_enter Try.func48, Try.ntmps48
          go_wp2
          go_ret
          exact ⟨rfl, rfl⟩
        · rw [if_neg (by omega)] at hs
          have e3 : ((r : Int) == 3) = false := by rw [beq_eq_false_iff_ne]; omega
          clear r0 r1 r3
          subst hs
          go_enter Try.func48, Try.ntmps48
          go_wp2
          go_ret
          exact ⟨rfl, rfl⟩
set_option maxHeartbeats 400000 in
theorem pointed_any (A : Option Addr) (n c : Nat) (xs : List UInt8) (w : World) (hl : xs.length = n) (hrd : Rd w A (B8 xs)) (h1 : 1 ≤ n) :
    Calls Try.prog 28 #[.slice A n c] w fun e w' => e = .returned (.int .i64 ((bt xs 0 : Nat) - 3 : Int)) ∧ w = w' := by
  obtain ⟨b, o, rfl⟩ := rd_addr8 hrd (by omega)
  have q0 := bt_cell (n := n) hrd (k := 0) (by omega)
  rw [Nat.add_zero] at q0
  have hb := bt_lt xs 0
  generalize bt xs 0 = v at *
  have i0 : (0 : Int) < (n : Int) := by omega
  clear hl hrd
  go_enter Try.func28, Try.ntmps28
  go_wp2
  go_ret
  exact ⟨rfl, rfl⟩
/-- points. -/
def ptB (xs : List UInt8) (frm size : Nat) : Bool := decide (frm ≤ xs.length ∧ (xs.length - frm) % size = 0 ∧ frm + 3 ≤ bt xs 0 ∧ bt xs 0 ≤ xs.length + 3 ∧ (bt xs 0 - 3 - frm) % size = 0)
set_option maxHeartbeats 400000 in
theorem points_any (A : Option Addr) (n c : Nat) (xs : List UInt8) (frm size : Nat) (w : World) (hl : xs.length = n) (hrd : Rd w A (B8 xs)) (hn : n ≤ 140737488351232) (hf : 1 ≤ frm ∧ frm ≤ 2) (hs : 1 ≤ size ∧ size ≤ 8) :
    Calls Try.prog 44 #[.slice A n c, .int .i64 frm, .int .i64 size] w fun e w' => e = .returned (.bool (ptB xs frm size)) ∧ w = w' := by
  have hb := bt_lt xs 0
  have sz0 : ((size : Int) == 0) = false := by rw [beq_eq_false_iff_ne]; omega
  have sz1 : ¬ (size : Int) = 0 := by omega
  by_cases hf1 : n < frm
  · have e : ptB xs frm size = false := by unfold ptB; exact decide_eq_false (by omega)
    rw [e]
    have hfi : (n : Int) < (frm : Int) := by omega
    clear hl hrd e
    go_enter Try.func44, Try.ntmps44
    go_wp2
    go_ret
    exact ⟨rfl, rfl⟩
  · have hfi : ¬ (n : Int) < (frm : Int) := by omega
    obtain ⟨d, hd⟩ : ∃ d, d = n - frm := ⟨_, rfl⟩
    have d1 : (n : Int) - (frm : Int) = (d : Int) := by omega
    obtain ⟨r, hr⟩ : ∃ r, r = d % size := ⟨_, rfl⟩
    have r1 : (d : Int).tmod (size : Int) = (r : Int) := by rw [Int.tmod_eq_emod_of_nonneg (by omega), hr]; rfl
    have r2 : (d : Int) % (size : Int) = (r : Int) := by rw [hr]; rfl
    have hdn : d ≤ n := by omega
    have hrz : r < 8 := by rw [hr]; exact Nat.lt_of_lt_of_le (Nat.mod_lt _ (by omega)) hs.2
    by_cases hr0 : r = 0
    · have e0 : ((r : Int) != 0) = false := by rw [hr0]; rfl
      have e0' : (r : Int) = 0 := by omega
      have cP := fun W (hW : Rd W A (B8 xs)) => pointed_any A n c xs W hl hW (by omega)
      have hptB : ptB xs frm size = decide (frm + 3 ≤ bt xs 0 ∧ bt xs 0 ≤ n + 3 ∧ (bt xs 0 - 3 - frm) % size = 0) := by
        unfold ptB
        rw [hl, ← hd, ← hr]
        simp only [hr0, true_and, show frm ≤ n by omega]
      rw [hptB]
      generalize bt xs 0 = v at *
      obtain ⟨p, hp⟩ : ∃ p : Int, p = (v : Int) - 3 := ⟨_, rfl⟩
      rw [← hp] at cP
      have cP' := cP w hrd
      have hpb : -3 ≤ p ∧ p ≤ 252 := by omega
      have CP := Lib.hid cP'
      clear cP cP' hptB hrd hl hr0
      by_cases g1 : frm + 3 ≤ v
      · have g1i : (frm : Int) ≤ p := by omega
        by_cases g2 : v ≤ n + 3
        · have g2i : p ≤ (n : Int) := by omega
          obtain ⟨u, hu⟩ : ∃ u, u = v - 3 - frm := ⟨_, rfl⟩
          have u1 : p - (frm : Int) = (u : Int) := by omega
          obtain ⟨t, ht⟩ : ∃ t, t = u % size := ⟨_, rfl⟩
          have t1 : (u : Int).tmod (size : Int) = (t : Int) := by rw [Int.tmod_eq_emod_of_nonneg (by omega), ht]; rfl
          have t2 : (u : Int) % (size : Int) = (t : Int) := by rw [ht]; rfl
          have hu252 : u ≤ 252 := by omega
          rw [← hu, ← ht]
          by_cases ht0 : t = 0
          · have f0 : ((t : Int) == 0) = true := by rw [ht0]; rfl
            rw [decide_eq_true ⟨g1, g2, ht0⟩]
            clear ht0 ht hu hp hd hr g1 g2
            go_enter Try.func44, Try.ntmps44
            go_wp2_with fail
            refine CP.out.mono ?_
            rintro e w' ⟨rfl, rfl⟩
            go_wp2
            go_ret
            exact ⟨rfl, rfl⟩
          · have f0 : ((t : Int) == 0) = false := by rw [beq_eq_false_iff_ne]; omega
            rw [decide_eq_false (by omega)]
            clear ht0 ht hu hp hd hr g1 g2
            go_enter Try.func44, Try.ntmps44
            go_wp2_with fail
            refine CP.out.mono ?_
            rintro e w' ⟨rfl, rfl⟩
            go_wp2
            go_ret
            exact ⟨rfl, rfl⟩
        · have g2i : ¬ p ≤ (n : Int) := by omega
          rw [decide_eq_false (by omega)]
          clear hp hd hr g1 g2
          go_enter Try.func44, Try.ntmps44
          go_wp2_with fail
          refine CP.out.mono ?_
          rintro e w' ⟨rfl, rfl⟩
          go_wp2
          go_ret
          exact ⟨rfl, rfl⟩
      · have g1i : ¬ (frm : Int) ≤ p := by omega
        rw [decide_eq_false (by omega)]
        clear hp hd hr g1
        go_enter Try.func44, Try.ntmps44
        go_wp2_with fail
        refine CP.out.mono ?_
        rintro e w' ⟨rfl, rfl⟩
        go_wp2
        go_ret
        exact ⟨rfl, rfl⟩
    · have e : ptB xs frm size = false := by unfold ptB; rw [hl, ← hd, ← hr]; exact decide_eq_false (by omega)
      rw [e]
      have e0 : ((r : Int) != 0) = true := by rw [bne_iff_ne]; omega
      have e0' : ¬ (r : Int) = 0 := by omega
      clear hl hrd e hr hd hr0
      go_enter Try.func44, Try.ntmps44
      go_wp2
      go_ret
      exact ⟨rfl, rfl⟩
end Go.Proofs.Ytekhjpiopbkoaaa
