/- The statement's own comparisons: same, Same. -/
import Derived.Test.YtekhjpiopbkoaaaOre
import Derived.Test.YtekhjpiopbkoaaaOml
import Derived.Test.YtekhjpiopbkoaaaEq
import Derived.Deep.RegionHeld
namespace Go.Proofs.Ytekhjpiopbkoaaa
open Go.RowKit
set_option linter.unusedVariables false
set_option maxRecDepth 100000

set_option maxHeartbeats 1000000 in
theorem sameO_any (k k' : Nat) (A B : Option Addr) (n m c d : Nat) (xs ys : List UInt8) (w : World) (hx : xs.length = n) (hy : ys.length = m) (ha : Rd w A (B8 xs)) (hb : Rd w B (B8 ys)) (hn : n ≤ 140737488351232) :
    Calls Try.prog 19 #[OV k A n c, OV k' B m d] w fun e w' => e = .returned (.bool (decide (k = k' ∧ xs = ys))) ∧ Fr [] w w' := by
  have hF : Fr [] w ((w.alloc (.cells #[.int .u8 k, .slice A n c] 35)).alloc (.cells #[.int .u8 k', .slice B m d] 35)) := ((Fr.refl _ _).alloc _).alloc _
  have cS := same_any A B n m c d xs ys _ hx hy (ha.fr hF (by simp)) (hb.fr hF (by simp)) (by omega)
  unfold EqP at cS
  have HF := Lib.hid hF
  unfold OV
  by_cases hk : k = k'
  · subst hk
    have e0 : ((k : Int) == (k : Int)) = true := by simp
    rw [show decide (k = k ∧ xs = ys) = decide (xs = ys) by simp]
    generalize decide (xs = ys) = r at cS ⊢
    have CS := Lib.hid cS
    clear cS hF ha hb hx hy
    go_enter Try.func19, Try.ntmps19
    go_wp2_with fail
    refine CS.out.mono ?_
    rintro e w' ⟨rfl, hs⟩
    have hF5 := HF.out.trans hs.fr
    clear hs CS HF
    go_wp2_with fail
    go_ret
    exact ⟨rfl, hF5⟩
  · have e0 : ((k : Int) == (k' : Int)) = false := by rw [beq_eq_false_iff_ne]; omega
    rw [show decide (k = k' ∧ xs = ys) = false by simp [hk]]
    clear hk cS hF ha hb hx hy
    go_enter Try.func19, Try.ntmps19
    go_wp2_with fail
    go_ret
    exact ⟨rfl, HF.out⟩
theorem ret_bool {x y : Bool} (h : x = y) : Ending.returned (.bool x) = .returned (.bool y) := by rw [h]
theorem pr_get {l : List Opt} {i : Nat} {o : Opt} (h : l[i]? = some o) : (l.map pr)[i]? = some (pr o) := by rw [List.getElem?_map, h]; rfl
theorem pr_step {la lb : List Opt} {k : Nat} {a b : Opt} (ha : la[k]? = some a) (hb : lb[k]? = some b) (he : (la.take k).map pr = (lb.take k).map pr) (h : pr a = pr b) : (la.take (k + 1)).map pr = (lb.take (k + 1)).map pr := by
  rw [List.take_add_one, List.take_add_one, ha, hb, List.map_append, List.map_append, he]; simp [h]
theorem pr_ne {la lb : List Opt} {k : Nat} {a b : Opt} (ha : la[k]? = some a) (hb : lb[k]? = some b) (h : pr a ≠ pr b) : la.map pr ≠ lb.map pr := fun e => by
  have h1 := pr_get ha
  rw [e, pr_get hb] at h1
  injection h1 with h1
  exact h h1.symm
set_option maxHeartbeats 2000000 in
theorem sameL_any (A B : Option Addr) (n m c d : Nat) (la lb : List Opt) (w : World) (hx : la.length = n) (hy : lb.length = m) (ha : RdO w A la) (hb : RdO w B lb) (hn : n ≤ 140737488351232) :
    Calls Try.prog 13 #[.slice A n c, .slice B m d] w fun e w' => e = .returned (.bool (decide (la.map pr = lb.map pr))) ∧ Fr [] w w' := by
  by_cases hnm : n = m
  · subst hnm
    have e0 : ((n : Int) != (n : Int)) = false := by simp
    have HX := Lib.hid hx
    have HY := Lib.hid hy
    clear hx hy
    go_enter Try.func13, Try.ntmps13
    go_wp2
    go_loopw [13] (fun i wr => ∃ k : Nat, k ≤ n ∧ i = .int .i64 k ∧ (la.take k).map pr = (lb.take k).map pr ∧ Fr [] w wr) (fun i _ => n - (intOf i).toNat)
    case atStart => exact ⟨0, Nat.zero_le _, rfl, rfl, Fr.refl _ _⟩
    case round =>
      obtain ⟨k, hk, rfl, he, hF⟩ := hrel
      by_cases hlt : k < n
      · obtain ⟨a, hka⟩ : ∃ a, la[k]? = some a := ⟨_, List.getElem?_eq_getElem (by rw [HX.out]; exact hlt)⟩
        obtain ⟨b, hkb⟩ : ∃ b, lb[k]? = some b := ⟨_, List.getElem?_eq_getElem (by rw [HY.out]; exact hlt)⟩
        obtain ⟨b1, o1, rfl, p1, p2, p3⟩ := (ha.fr hF) k a hka
        obtain ⟨b2, o2, rfl, r1, r2, r3⟩ := (hb.fr hF) k b hkb
        have cS := fun W (hW : Fr [] wr W) => sameO_any a.k b.k a.A b.A a.n b.n a.c b.c a.d b.d W p3.len r3.len (p3.rd.fr hW (by simp)) (r3.rd.fr hW (by simp)) p3.n
        unfold OV at cS
        have hlti : (k : Int) < (n : Int) := by omega
        have wk : IntKind.i64.wrap ((k : Int) + 1) = (k : Int) + 1 := IntWalk.i64_in _ (by omega)
        have wk2 : ((k : Int) + 1) = ((k + 1 : Nat) : Int) := by omega
        have i0 : (0 : Int) ≤ (k : Int) ∧ (k : Int) < (n : Int) := by omega
        have hdec : decide (a.k = b.k ∧ a.d = b.d) = decide (pr a = pr b) := by
          unfold pr; simp [Prod.ext_iff]
        rw [hdec] at cS
        by_cases hp : pr a = pr b
        · rw [decide_eq_true hp] at cS
          have HKA := Lib.hid hka
          have HKB := Lib.hid hkb
          have HP := Lib.hid hp
          have HE := Lib.hid he
          have HF := Lib.hid hF
          have WK := Lib.hid wk2
          have CS := Lib.hid cS
          have P1 := Lib.hid p1
          have P2 := Lib.hid p2
          have R1 := Lib.hid r1
          have R2 := Lib.hid r2
          clear hka hkb he hF wk2 hdec cS p1 p2 p3 r1 r2 r3 hp
          go_wp2_with fail
          have hS0 : Fr [] wr wr.drew := (Fr.refl _ _).drew
          refine wp_region_held_drew (S := Fr [] wr) (by kernel_rfl) hS0 (fun hS => ?_)
          clear hS0
          refine wpAnyH_take (i := 0) (v := ?_) rfl (by kernel_rfl) (by kernel_rfl) (by kernel_rfl) (fun _ _ _ h => h) (Or.inl ⟨by rfl, ?_⟩) hS ?_
          rotate_left 1
          · intro W hSw; have q0 := Fr.cell hSw P1.out (by simp); have q1 := Fr.cell hSw P2.out (by simp); have q2 := Fr.cell hSw R1.out (by simp); have q3 := Fr.cell hSw R2.out (by simp); go_simp; with_reducible rfl
          try simp only [Act.put, List.getElem_toArray, List.getElem_cons_zero, List.setIfInBounds_toArray, List.set_cons_zero, List.set_cons_succ]
          refine wpAnyH_take (i := 1) (v := ?_) rfl (by kernel_rfl) (by kernel_rfl) (by kernel_rfl) (fun _ _ _ h => h) (Or.inl ⟨by rfl, ?_⟩) hS ?_
          rotate_left 1
          · intro W hSw; have q0 := Fr.cell hSw P1.out (by simp); have q1 := Fr.cell hSw P2.out (by simp); have q2 := Fr.cell hSw R1.out (by simp); have q3 := Fr.cell hSw R2.out (by simp); go_simp; with_reducible rfl
          try simp only [Act.put, List.getElem_toArray, List.getElem_cons_succ, List.getElem_cons_zero, List.setIfInBounds_toArray, List.set_cons_zero, List.set_cons_succ]
          refine wpAnyH_take (i := 2) (v := ?_) rfl (by kernel_rfl) (by kernel_rfl) (by kernel_rfl) (fun _ _ _ h => h) (Or.inl ⟨by rfl, ?_⟩) hS ?_
          rotate_left 1
          · intro W hSw; have q0 := Fr.cell hSw P1.out (by simp); have q1 := Fr.cell hSw P2.out (by simp); have q2 := Fr.cell hSw R1.out (by simp); have q3 := Fr.cell hSw R2.out (by simp); go_simp; with_reducible rfl
          try simp only [Act.put, List.getElem_toArray, List.getElem_cons_succ, List.getElem_cons_zero, List.setIfInBounds_toArray, List.set_cons_zero, List.set_cons_succ]
          refine wpAnyH_take (i := 3) (v := ?_) rfl (by kernel_rfl) (by kernel_rfl) (by kernel_rfl) (fun _ _ _ h => h) (Or.inl ⟨by rfl, ?_⟩) hS ?_
          rotate_left 1
          · intro W hSw; have q0 := Fr.cell hSw P1.out (by simp); have q1 := Fr.cell hSw P2.out (by simp); have q2 := Fr.cell hSw R1.out (by simp); have q3 := Fr.cell hSw R2.out (by simp); go_simp; with_reducible rfl
          try simp only [Act.put, List.getElem_toArray, List.getElem_cons_succ, List.getElem_cons_zero, List.setIfInBounds_toArray, List.set_cons_zero, List.set_cons_succ]
          refine wpAnyH_take (i := 4) (v := ?_) rfl (by kernel_rfl) (by kernel_rfl) (by kernel_rfl) (fun _ _ _ h => h) (Or.inl ⟨by rfl, ?_⟩) hS ?_
          rotate_left 1
          · intro W hSw; have q0 := Fr.cell hSw P1.out (by simp); have q1 := Fr.cell hSw P2.out (by simp); have q2 := Fr.cell hSw R1.out (by simp); have q3 := Fr.cell hSw R2.out (by simp); go_simp; with_reducible rfl
          try simp only [Act.put, List.getElem_toArray, List.getElem_cons_succ, List.getElem_cons_zero, List.setIfInBounds_toArray, List.set_cons_zero, List.set_cons_succ]
          refine wpAnyH_take (i := 5) (v := ?_) rfl (by kernel_rfl) (by kernel_rfl) (by kernel_rfl) (fun _ _ _ h => h) (Or.inl ⟨by rfl, ?_⟩) hS ?_
          rotate_left 1
          · intro W hSw; have q0 := Fr.cell hSw P1.out (by simp); have q1 := Fr.cell hSw P2.out (by simp); have q2 := Fr.cell hSw R1.out (by simp); have q3 := Fr.cell hSw R2.out (by simp); go_simp; with_reducible rfl
          try simp only [Act.put, List.getElem_toArray, List.getElem_cons_succ, List.getElem_cons_zero, List.setIfInBounds_toArray, List.set_cons_zero, List.set_cons_succ]
          refine wpAnyH_take (i := 6) (v := ?_) rfl (by kernel_rfl) (by kernel_rfl) (by kernel_rfl) (fun _ _ _ h => h) (Or.inl ⟨by rfl, ?_⟩) hS ?_
          rotate_left 1
          · intro W hSw; have q0 := Fr.cell hSw P1.out (by simp); have q1 := Fr.cell hSw P2.out (by simp); have q2 := Fr.cell hSw R1.out (by simp); have q3 := Fr.cell hSw R2.out (by simp); go_simp; with_reducible rfl
          try simp only [Act.put, List.getElem_toArray, List.getElem_cons_succ, List.getElem_cons_zero, List.setIfInBounds_toArray, List.set_cons_zero, List.set_cons_succ]
          refine wpAnyH_take (i := 7) (v := ?_) rfl (by kernel_rfl) (by kernel_rfl) (by kernel_rfl) (fun _ _ _ h => h) (Or.inl ⟨by rfl, ?_⟩) hS ?_
          rotate_left 1
          · intro W hSw; have q0 := Fr.cell hSw P1.out (by simp); have q1 := Fr.cell hSw P2.out (by simp); have q2 := Fr.cell hSw R1.out (by simp); have q3 := Fr.cell hSw R2.out (by simp); go_simp; with_reducible rfl
          try simp only [Act.put, List.getElem_toArray, List.getElem_cons_succ, List.getElem_cons_zero, List.setIfInBounds_toArray, List.set_cons_zero, List.set_cons_succ]
          refine wpAnyH_ready (rs := [8]) (by kernel_rfl) (by simp) ?_
          refine AllReadyH.cons rfl (fun K hK => ?_) AllReadyH.nil
          go_simp
          refine (CS.out _ hS).mono ?_
          rintro e w5 ⟨rfl, hF5⟩
          have hS5 : Fr [] wr w5 := hS.trans hF5
          refine hK.out _ _ hS5 (fun hS2 => ?_)
          clear hK K hF5 hS
          replace hS := hS2
          clear hS2
          try simp only [Act.put, List.getElem_toArray, List.getElem_cons_succ, List.getElem_cons_zero, List.setIfInBounds_toArray, List.set_cons_zero, List.set_cons_succ]
          refine wpAnyH_take (i := 9) (v := ?_) rfl (by kernel_rfl) (by kernel_rfl) (by kernel_rfl) (fun _ _ _ h => h) (Or.inl ⟨by rfl, ?_⟩) hS ?_
          rotate_left 1
          · intro W hSw; go_simp; with_reducible rfl
          try simp only [Act.put, List.getElem_toArray, List.getElem_cons_succ, List.getElem_cons_zero, List.setIfInBounds_toArray, List.set_cons_zero, List.set_cons_succ]
          refine wpAnyH_done (by kernel_rfl) ?_ _
          have HFF := Lib.hid (HF.out.trans hS)
          clear hS hS5
          go_wp2_with fail
          refine ⟨⟨k + 1, by omega, by rw [WK.out], pr_step HKA.out HKB.out HE.out HP.out, HFF.out⟩, by simp [intOf]; omega⟩
        · rw [decide_eq_false hp] at cS
          have HKA := Lib.hid hka
          have HKB := Lib.hid hkb
          have HP := Lib.hid hp
          have HE := Lib.hid he
          have HF := Lib.hid hF
          have WK := Lib.hid wk2
          have CS := Lib.hid cS
          have P1 := Lib.hid p1
          have P2 := Lib.hid p2
          have R1 := Lib.hid r1
          have R2 := Lib.hid r2
          clear hka hkb he hF wk2 hdec cS p1 p2 p3 r1 r2 r3 hp
          go_wp2_with fail
          have hS0 : Fr [] wr wr.drew := (Fr.refl _ _).drew
          refine wp_region_held_drew (S := Fr [] wr) (by kernel_rfl) hS0 (fun hS => ?_)
          clear hS0
          refine wpAnyH_take (i := 0) (v := ?_) rfl (by kernel_rfl) (by kernel_rfl) (by kernel_rfl) (fun _ _ _ h => h) (Or.inl ⟨by rfl, ?_⟩) hS ?_
          rotate_left 1
          · intro W hSw; have q0 := Fr.cell hSw P1.out (by simp); have q1 := Fr.cell hSw P2.out (by simp); have q2 := Fr.cell hSw R1.out (by simp); have q3 := Fr.cell hSw R2.out (by simp); go_simp; with_reducible rfl
          try simp only [Act.put, List.getElem_toArray, List.getElem_cons_zero, List.setIfInBounds_toArray, List.set_cons_zero, List.set_cons_succ]
          refine wpAnyH_take (i := 1) (v := ?_) rfl (by kernel_rfl) (by kernel_rfl) (by kernel_rfl) (fun _ _ _ h => h) (Or.inl ⟨by rfl, ?_⟩) hS ?_
          rotate_left 1
          · intro W hSw; have q0 := Fr.cell hSw P1.out (by simp); have q1 := Fr.cell hSw P2.out (by simp); have q2 := Fr.cell hSw R1.out (by simp); have q3 := Fr.cell hSw R2.out (by simp); go_simp; with_reducible rfl
          try simp only [Act.put, List.getElem_toArray, List.getElem_cons_succ, List.getElem_cons_zero, List.setIfInBounds_toArray, List.set_cons_zero, List.set_cons_succ]
          refine wpAnyH_take (i := 2) (v := ?_) rfl (by kernel_rfl) (by kernel_rfl) (by kernel_rfl) (fun _ _ _ h => h) (Or.inl ⟨by rfl, ?_⟩) hS ?_
          rotate_left 1
          · intro W hSw; have q0 := Fr.cell hSw P1.out (by simp); have q1 := Fr.cell hSw P2.out (by simp); have q2 := Fr.cell hSw R1.out (by simp); have q3 := Fr.cell hSw R2.out (by simp); go_simp; with_reducible rfl
          try simp only [Act.put, List.getElem_toArray, List.getElem_cons_succ, List.getElem_cons_zero, List.setIfInBounds_toArray, List.set_cons_zero, List.set_cons_succ]
          refine wpAnyH_take (i := 3) (v := ?_) rfl (by kernel_rfl) (by kernel_rfl) (by kernel_rfl) (fun _ _ _ h => h) (Or.inl ⟨by rfl, ?_⟩) hS ?_
          rotate_left 1
          · intro W hSw; have q0 := Fr.cell hSw P1.out (by simp); have q1 := Fr.cell hSw P2.out (by simp); have q2 := Fr.cell hSw R1.out (by simp); have q3 := Fr.cell hSw R2.out (by simp); go_simp; with_reducible rfl
          try simp only [Act.put, List.getElem_toArray, List.getElem_cons_succ, List.getElem_cons_zero, List.setIfInBounds_toArray, List.set_cons_zero, List.set_cons_succ]
          refine wpAnyH_take (i := 4) (v := ?_) rfl (by kernel_rfl) (by kernel_rfl) (by kernel_rfl) (fun _ _ _ h => h) (Or.inl ⟨by rfl, ?_⟩) hS ?_
          rotate_left 1
          · intro W hSw; have q0 := Fr.cell hSw P1.out (by simp); have q1 := Fr.cell hSw P2.out (by simp); have q2 := Fr.cell hSw R1.out (by simp); have q3 := Fr.cell hSw R2.out (by simp); go_simp; with_reducible rfl
          try simp only [Act.put, List.getElem_toArray, List.getElem_cons_succ, List.getElem_cons_zero, List.setIfInBounds_toArray, List.set_cons_zero, List.set_cons_succ]
          refine wpAnyH_take (i := 5) (v := ?_) rfl (by kernel_rfl) (by kernel_rfl) (by kernel_rfl) (fun _ _ _ h => h) (Or.inl ⟨by rfl, ?_⟩) hS ?_
          rotate_left 1
          · intro W hSw; have q0 := Fr.cell hSw P1.out (by simp); have q1 := Fr.cell hSw P2.out (by simp); have q2 := Fr.cell hSw R1.out (by simp); have q3 := Fr.cell hSw R2.out (by simp); go_simp; with_reducible rfl
          try simp only [Act.put, List.getElem_toArray, List.getElem_cons_succ, List.getElem_cons_zero, List.setIfInBounds_toArray, List.set_cons_zero, List.set_cons_succ]
          refine wpAnyH_take (i := 6) (v := ?_) rfl (by kernel_rfl) (by kernel_rfl) (by kernel_rfl) (fun _ _ _ h => h) (Or.inl ⟨by rfl, ?_⟩) hS ?_
          rotate_left 1
          · intro W hSw; have q0 := Fr.cell hSw P1.out (by simp); have q1 := Fr.cell hSw P2.out (by simp); have q2 := Fr.cell hSw R1.out (by simp); have q3 := Fr.cell hSw R2.out (by simp); go_simp; with_reducible rfl
          try simp only [Act.put, List.getElem_toArray, List.getElem_cons_succ, List.getElem_cons_zero, List.setIfInBounds_toArray, List.set_cons_zero, List.set_cons_succ]
          refine wpAnyH_take (i := 7) (v := ?_) rfl (by kernel_rfl) (by kernel_rfl) (by kernel_rfl) (fun _ _ _ h => h) (Or.inl ⟨by rfl, ?_⟩) hS ?_
          rotate_left 1
          · intro W hSw; have q0 := Fr.cell hSw P1.out (by simp); have q1 := Fr.cell hSw P2.out (by simp); have q2 := Fr.cell hSw R1.out (by simp); have q3 := Fr.cell hSw R2.out (by simp); go_simp; with_reducible rfl
          try simp only [Act.put, List.getElem_toArray, List.getElem_cons_succ, List.getElem_cons_zero, List.setIfInBounds_toArray, List.set_cons_zero, List.set_cons_succ]
          refine wpAnyH_ready (rs := [8]) (by kernel_rfl) (by simp) ?_
          refine AllReadyH.cons rfl (fun K hK => ?_) AllReadyH.nil
          go_simp
          refine (CS.out _ hS).mono ?_
          rintro e w5 ⟨rfl, hF5⟩
          have hS5 : Fr [] wr w5 := hS.trans hF5
          refine hK.out _ _ hS5 (fun hS2 => ?_)
          clear hK K hF5 hS
          replace hS := hS2
          clear hS2
          try simp only [Act.put, List.getElem_toArray, List.getElem_cons_succ, List.getElem_cons_zero, List.setIfInBounds_toArray, List.set_cons_zero, List.set_cons_succ]
          refine wpAnyH_take (i := 9) (v := ?_) rfl (by kernel_rfl) (by kernel_rfl) (by kernel_rfl) (fun _ _ _ h => h) (Or.inl ⟨by rfl, ?_⟩) hS ?_
          rotate_left 1
          · intro W hSw; go_simp; with_reducible rfl
          try simp only [Act.put, List.getElem_toArray, List.getElem_cons_succ, List.getElem_cons_zero, List.setIfInBounds_toArray, List.set_cons_zero, List.set_cons_succ]
          refine wpAnyH_done (by kernel_rfl) ?_ _
          have HFF := Lib.hid (HF.out.trans hS)
          clear hS hS5
          go_wp2_with fail
          go_ret
          exact ⟨ret_bool (decide_eq_false (pr_ne HKA.out HKB.out HP.out)).symm, HFF.out⟩
      · obtain rfl : k = n := by omega
        have hlti : ¬ (k : Int) < (k : Int) := by omega
        have hend : la.map pr = lb.map pr := by
          rw [List.take_of_length_le (by rw [HX.out]; exact Nat.le_refl _), List.take_of_length_le (by rw [HY.out]; exact Nat.le_refl _)] at he
          exact he
        have HEND := Lib.hid hend
        have HF := Lib.hid hF
        clear hend hF he
        go_wp2_with fail
        go_ret
        exact ⟨ret_bool (decide_eq_true HEND.out).symm, HF.out⟩
  · have e0 : ((n : Int) != (m : Int)) = true := by rw [bne_iff_ne]; omega
    have hne : la.map pr ≠ lb.map pr := fun e => hnm (by have := congrArg List.length e; rw [List.length_map, List.length_map] at this; omega)
    have HNE := Lib.hid hne
    clear hne hnm hx hy ha hb
    go_enter Try.func13, Try.ntmps13
    go_wp2_with fail
    go_ret
    exact ⟨ret_bool (decide_eq_false HNE.out).symm, Fr.refl _ _⟩
end Go.Proofs.Ytekhjpiopbkoaaa
