/- Route: refused, and the two lists. -/
import Derived.Test.YtekhjpiopbkoaaaOad
import Derived.Test.YtekhjpiopbkoaaaOrd
namespace Go.Proofs.Ytekhjpiopbkoaaa
open Go.RowKit
set_option linter.unusedVariables false
set_option maxRecDepth 100000

set_option maxHeartbeats 1000000 in
theorem route_arg (k : Nat) (A : Option Addr) (n c : Nat) (xs : List UInt8) (w : World) (hl : xs.length = n) (hrd : Rd w A (B8 xs)) (hn : n ≤ 140737488351232) (hk : k < 256) (h : rtsB k xs = false) :
    Calls Try.prog 15 #[OV k A n c] w fun e w' => e = .returned (.tuple #[.slice none 0 0, .slice none 0 0, .int .i64 2]) ∧ Fr [] w w' := by
  have hF : Fr [] w (w.alloc (.cells #[.int .u8 k, .slice A n c] 35)) := (Fr.refl _ _).alloc _
  have cR := routes_any k A n c xs _ hl (hrd.fr hF (by simp)) hn hk
  rw [h] at cR
  unfold OV at cR
  have CR := Lib.hid cR
  have HF := Lib.hid hF
  clear cR hF hl hrd h
  unfold OV
  go_enter Try.func15, Try.ntmps15
  go_wp2_with fail
  refine CR.out.mono ?_
  rintro e w5 ⟨rfl, hF5⟩
  have HF5 := Lib.hid (HF.out.trans hF5)
  clear hF5 CR HF
  go_wp2
  refine bodyPost_ret (v := .tuple #[.slice none 0 0, .slice none 0 0, .int .i64 2]) (by simp [results, Try.results15, go_sem]) rfl ?_
  exact ⟨rfl, HF5.out⟩

/-- Two lists of numbers, the first p places from the place 2 on. -/
def RouY (xs : List UInt8) (p q : Nat) (w : World) (e : Ending) (w' : World) : Prop :=
  Fr [] w w' ∧ ∃ A1 c1 A2 c2, e = .returned (.tuple #[.slice A1 p c1, .slice A2 q c2, .int .i64 0]) ∧
    w'.ownsRow w.heap.size 44 1 (.slice A1 p c1) p (C32 ((xs.drop 1).take (4 * p)) p) ∧ w'.ownsRow w.heap.size 44 1 (.slice A2 q c2) q (C32 (xs.drop (1 + 4 * p)) q) ∧
    (∀ g, (Value.slice A1 p c1).ownBlock = some g → (Value.slice A2 q c2).ownBlock ≠ some g)
set_option maxHeartbeats 1000000 in
theorem route_go (k b o : Nat) (n c : Nat) (xs : List UInt8) (p q : Nat) (w : World) (hl : xs.length = n) (hrd : Rd w (some ⟨b, o, none⟩) (B8 xs)) (hnc : n ≤ c) (hc : c ≤ 9223372036854775807) (hn : n ≤ 38) (hk : k < 256) (h : rtsB k xs = true) (hf : bt xs 0 = 4 * p + 4) (hp : n = 1 + 4 * p + 4 * q) :
    Calls Try.prog 15 #[OV k (some ⟨b, o, none⟩) n c] w (RouY xs p q w) := by
  have hF : Fr [] w (w.alloc (.cells #[.int .u8 k, .slice (some ⟨b, o, none⟩) n c] 35)) := (Fr.refl _ _).alloc _
  have ha1 : (w.alloc (.cells #[.int .u8 k, .slice (some ⟨b, o, none⟩) n c] 35)).heap[w.heap.size]? = some (.cells #[.int .u8 k, .slice (some ⟨b, o, none⟩) n c] 35 (0, 0)) := heap_alloc_new w _
  have cR := routes_any k (some ⟨b, o, none⟩) n c xs _ hl (hrd.fr hF (by simp)) (by omega) hk
  rw [h] at cR
  unfold OV at cR
  have cP := fun W (hW : Fr [] w W) => pointed_any (some ⟨b, o, none⟩) n c xs W hl (hrd.fr hW (by simp)) (by omega)
  have CP := Lib.hid cP
  have CR := Lib.hid cR
  have HF := Lib.hid hF
  have HA := Lib.hid ha1
  have HL := Lib.hid hl
  have HFB := Lib.hid hf
  have HP := Lib.hid hp
  clear cR cP hF ha1 hl hf hp
  unfold OV
  go_enter Try.func15, Try.ntmps15
  go_wp2_with fail
  refine CR.out.mono ?_
  rintro e w5 ⟨rfl, hF5⟩
  have HA5 := Lib.hid (hF5.blk HA.out (by simp))
  have HF5 := Lib.hid (HF.out.trans hF5)
  have q1 : w5.cell? ⟨w.heap.size, 0 + 1, none⟩ = some (.slice (some ⟨b, o, none⟩) n c) := by simp [World.cell?, HA5.out]
  have q1' : w5.cell? ⟨w.heap.size, 1, none⟩ = some (.slice (some ⟨b, o, none⟩) n c) := by simp [World.cell?, HA5.out]
  clear hF5 CR HF HA
  go_wp2_with fail
  refine (CP.out _ HF5.out).mono ?_
  rintro e w6 ⟨rfl, rfl⟩
  have en : ((bt xs 0 : Nat) : Int) - 3 = ((1 + 4 * p : Nat) : Int) := by have := HFB.out; omega
  rw [en]
  go_wp2_with fail
  have hS0 : Fr [] w w5.drew ∧ w5.drew.cell? ⟨w.heap.size, 1, none⟩ = some (.slice (some ⟨b, o, none⟩) n c) := ⟨HF5.out.drew, by simp [World.cell?, ((Fr.refl [] _).drew).blk HA5.out (by simp)]⟩
  have j1 : (0 : Int) ≤ 1 + 4 * (p : Int) ∧ 1 + 4 * (p : Int) ≤ c := by have := HP.out; omega
  have j2 : (1 : Int) ≤ 1 + 4 * (p : Int) := by omega
  have j3 : (0 : Int) ≤ 1 + 4 * (p : Int) ∧ 1 + 4 * (p : Int) ≤ n := by have := HP.out; omega
  have cA1 : ∀ W, Fr [] w W → Calls Try.prog 29 #[.slice (if c = 1 then some ⟨b, o, none⟩ else some ⟨b, o + 1, none⟩) (4 * p) (c - 1)] W fun e W' => Fr [] W W' ∧ ∃ A' c', e = .returned (.slice A' p c') ∧ W'.ownsRow W.heap.size 44 1 (.slice A' p c') p (C32 ((xs.drop 1).take (4 * p)) p) := fun W hW => by
    have hp := HP.out
    have hr1 := ((hrd.fr hW (by simp)).drop 1).take (4 * p)
    rw [B8_drop, B8_take] at hr1
    simp only [Option.map_some, add_at] at hr1
    exact addresses_any _ b (o + 1) (4 * p) (c - 1) p (fun h0 => by rw [if_neg (by omega)]) ((xs.drop 1).take (4 * p)) (by rw [List.length_take, List.length_drop, HL.out]; omega) (by omega) (by omega) (by omega) (by omega) W hr1
  have cA2 : ∀ W, Fr [] w W → Calls Try.prog 29 #[.slice (if c = 1 + 4 * p then some ⟨b, o, none⟩ else some ⟨b, o + (1 + 4 * p), none⟩) (n - (1 + 4 * p)) (c - (1 + 4 * p))] W fun e W' => Fr [] W W' ∧ ∃ A' c', e = .returned (.slice A' q c') ∧ W'.ownsRow W.heap.size 44 1 (.slice A' q c') q (C32 (xs.drop (1 + 4 * p)) q) := fun W hW => by
    have hp := HP.out
    have hr1 := (hrd.fr hW (by simp)).drop (1 + 4 * p)
    rw [B8_drop] at hr1
    simp only [Option.map_some, add_at] at hr1
    exact addresses_any _ b (o + (1 + 4 * p)) (n - (1 + 4 * p)) (c - (1 + 4 * p)) q (fun h0 => by rw [if_neg (by omega)]) (xs.drop (1 + 4 * p)) (by rw [List.length_drop, HL.out]) (by omega) (by omega) (by omega) (by omega) W hr1
  have CA1 := Lib.hid cA1
  have CA2 := Lib.hid cA2
  clear cA1 cA2
  refine wp_region_held_drew (S := fun W => Fr [] w W ∧ W.cell? ⟨w.heap.size, 1, none⟩ = some (.slice (some ⟨b, o, none⟩) n c)) (by kernel_rfl) hS0 (fun hS => ?_)
  clear hS0
  refine wpAnyH_take (i := 0) (v := ?_) rfl (by kernel_rfl) (by kernel_rfl) (by kernel_rfl) (fun _ _ _ h => h) (Or.inl ⟨by rfl, ?_⟩) hS ?_
  rotate_left 1
  · intro w' hSw; have q1 := hSw.2; go_simp; first | with_reducible rfl | (rw [if_pos j1, if_pos j2]) | (rw [if_pos j3])
  try simp only [Act.put, List.getElem_toArray, List.getElem_cons_zero, List.setIfInBounds_toArray, List.set_cons_zero, List.set_cons_succ]
  refine wpAnyH_take (i := 1) (v := ?_) rfl (by kernel_rfl) (by kernel_rfl) (by kernel_rfl) (fun _ _ _ h => h) (Or.inl ⟨by rfl, ?_⟩) hS ?_
  rotate_left 1
  · intro w' hSw; have q1 := hSw.2; go_simp; first | with_reducible rfl | (rw [if_pos j1, if_pos j2]) | (rw [if_pos j3])
  try simp only [Act.put, List.getElem_toArray, List.getElem_cons_succ, List.getElem_cons_zero, List.setIfInBounds_toArray, List.set_cons_zero, List.set_cons_succ]
  refine wpAnyH_take (i := 2) (v := ?_) rfl (by kernel_rfl) (by kernel_rfl) (by kernel_rfl) (fun _ _ _ h => h) (Or.inl ⟨by rfl, ?_⟩) hS ?_
  rotate_left 1
  · intro w' hSw; have q1 := hSw.2; go_simp; first | with_reducible rfl | (rw [if_pos j1, if_pos j2]) | (rw [if_pos j3])
  try simp only [Act.put, List.getElem_toArray, List.getElem_cons_succ, List.getElem_cons_zero, List.setIfInBounds_toArray, List.set_cons_zero, List.set_cons_succ]
  refine wpAnyH_take (i := 3) (v := ?_) rfl (by kernel_rfl) (by kernel_rfl) (by kernel_rfl) (fun _ _ _ h => h) (Or.inl ⟨by rfl, ?_⟩) hS ?_
  rotate_left 1
  · intro w' hSw; have q1 := hSw.2; go_simp; first | with_reducible rfl | (rw [if_pos j1, if_pos j2]) | (rw [if_pos j3])
  try simp only [Act.put, List.getElem_toArray, List.getElem_cons_succ, List.getElem_cons_zero, List.setIfInBounds_toArray, List.set_cons_zero, List.set_cons_succ]
  refine wpAnyH_take (i := 5) (v := ?_) rfl (by kernel_rfl) (by kernel_rfl) (by kernel_rfl) (fun _ _ _ h => h) (Or.inl ⟨by rfl, ?_⟩) hS ?_
  rotate_left 1
  · intro w' hSw; have q1 := hSw.2; go_simp; first | with_reducible rfl | (rw [if_pos j1, if_pos j2]) | (rw [if_pos j3])
  try simp only [Act.put, List.getElem_toArray, List.getElem_cons_succ, List.getElem_cons_zero, List.setIfInBounds_toArray, List.set_cons_zero, List.set_cons_succ]
  refine wpAnyH_take (i := 6) (v := ?_) rfl (by kernel_rfl) (by kernel_rfl) (by kernel_rfl) (fun _ _ _ h => h) (Or.inl ⟨by rfl, ?_⟩) hS ?_
  rotate_left 1
  · intro w' hSw; have q1 := hSw.2; go_simp; first | with_reducible rfl | (rw [if_pos j1, if_pos j2]) | (rw [if_pos j3])
  try simp only [Act.put, List.getElem_toArray, List.getElem_cons_succ, List.getElem_cons_zero, List.setIfInBounds_toArray, List.set_cons_zero, List.set_cons_succ]
  refine wpAnyH_take (i := 7) (v := ?_) rfl (by kernel_rfl) (by kernel_rfl) (by kernel_rfl) (fun _ _ _ h => h) (Or.inl ⟨by rfl, ?_⟩) hS ?_
  rotate_left 1
  · intro w' hSw; have q1 := hSw.2; go_simp; first | with_reducible rfl | (rw [if_pos j1, if_pos j2]) | (rw [if_pos j3])
  try simp only [Act.put, List.getElem_toArray, List.getElem_cons_succ, List.getElem_cons_zero, List.setIfInBounds_toArray, List.set_cons_zero, List.set_cons_succ]
  refine wpAnyH_take (i := 8) (v := ?_) rfl (by kernel_rfl) (by kernel_rfl) (by kernel_rfl) (fun _ _ _ h => h) (Or.inl ⟨by rfl, ?_⟩) hS ?_
  rotate_left 1
  · intro w' hSw; have q1 := hSw.2; go_simp; first | with_reducible rfl | (rw [if_pos j1, if_pos j2]) | (rw [if_pos j3])
  try simp only [Act.put, List.getElem_toArray, List.getElem_cons_succ, List.getElem_cons_zero, List.setIfInBounds_toArray, List.set_cons_zero, List.set_cons_succ]
  have i6 : (1 + 4 * (p : Int)).toNat = 1 + 4 * p := by omega
  have i7 : 1 + 4 * p - 1 = 4 * p := by omega
  rw [i6, i7]
  refine wpAnyH_ready (rs := [4]) (by kernel_rfl) (by simp) ?_
  refine AllReadyH.cons rfl (fun K hK => ?_) AllReadyH.nil
  go_simp
  refine (CA1.out _ hS.1).mono ?_
  rintro e W1 ⟨hF1, A1, c1, rfl, o1⟩
  refine hK.out _ _ ⟨hS.1.trans hF1, hF1.cell hS.2 (by simp)⟩ (fun hS2 => ?_)
  clear hK K
  have hT1 := hS.1.size
  replace hS := hS2
  clear hS2
  try simp only [Act.put, List.getElem_toArray, List.getElem_cons_succ, List.getElem_cons_zero, List.setIfInBounds_toArray, List.set_cons_zero, List.set_cons_succ]
  refine wpAnyH_ready (rs := [9]) (by kernel_rfl) (by simp) ?_
  refine AllReadyH.cons rfl (fun K hK => ?_) AllReadyH.nil
  go_simp
  refine (CA2.out _ hS.1).mono ?_
  rintro e W2 ⟨hF2, A2, c2, rfl, o2⟩
  refine hK.out _ _ ⟨hS.1.trans hF2, hF2.cell hS.2 (by simp)⟩ (fun hS2 => ?_)
  clear hK K
  have hT2 := hS.1.size
  replace hS := hS2
  clear hS2
  try simp only [Act.put, List.getElem_toArray, List.getElem_cons_succ, List.getElem_cons_zero, List.setIfInBounds_toArray, List.set_cons_zero, List.set_cons_succ]
  refine wpAnyH_take (i := 10) (v := ?_) rfl (by kernel_rfl) (by kernel_rfl) (by kernel_rfl) (fun _ _ _ h => h) (Or.inl ⟨by rfl, ?_⟩) hS ?_
  rotate_left 1
  · intro w' hSw; go_simp; with_reducible rfl
  try simp only [Act.put, List.getElem_toArray, List.getElem_cons_succ, List.getElem_cons_zero, List.setIfInBounds_toArray, List.set_cons_zero, List.set_cons_succ]
  refine wpAnyH_take (i := 11) (v := ?_) rfl (by kernel_rfl) (by kernel_rfl) (by kernel_rfl) (fun _ _ _ h => h) (Or.inl ⟨by rfl, ?_⟩) hS ?_
  rotate_left 1
  · intro w' hSw; go_simp; with_reducible rfl
  try simp only [Act.put, List.getElem_toArray, List.getElem_cons_succ, List.getElem_cons_zero, List.setIfInBounds_toArray, List.set_cons_zero, List.set_cons_succ]
  refine wpAnyH_take (i := 12) (v := ?_) rfl (by kernel_rfl) (by kernel_rfl) (by kernel_rfl) (fun _ _ _ h => h) (Or.inl ⟨by rfl, ?_⟩) hS ?_
  rotate_left 1
  · intro w' hSw; go_simp; with_reducible rfl
  try simp only [Act.put, List.getElem_toArray, List.getElem_cons_succ, List.getElem_cons_zero, List.setIfInBounds_toArray, List.set_cons_zero, List.set_cons_succ]
  refine wpAnyH_done (by kernel_rfl) ?_ _
  have hs1 := hF1.size
  have hY : RouY xs p q w (.returned (.tuple #[.slice A1 p c1, .slice A2 q c2, .int .i64 0])) W2 := by
    refine ⟨hS.1, _, _, _, _, rfl, own_ext (hF2.own o1 (by simp)) hT1, own_ext o2 hT2, fun g hg hg2 => ?_⟩
    have h1 := (o1.lt g hg).2
    have h2 := (o2.lt g hg2).1
    omega
  go_wp2
  all_goals exact bodyPost_ret (v := .tuple #[.slice A1 p c1, .slice A2 q c2, .int .i64 0]) (by simp [results, Try.results15, go_sem]) rfl hY
end Go.Proofs.Ytekhjpiopbkoaaa
