/- The closures of demands; Right. -/
import Derived.Test.YtekhjpiopbkoaaaOdm
import Derived.Deep.RegionHeld
import Derived.RegionTactic
namespace Go.Proofs.Ytekhjpiopbkoaaa
open Go.RowKit
set_option linter.unusedVariables false
set_option maxRecDepth 100000

/-- An option as a value. -/
def OV (k : Nat) (A : Option Addr) (n c : Nat) : Value := .agg #[.int .u8 k, .slice A n c]
/-- What Data must be. -/
def demB (k : Nat) (xs : List UInt8) : Bool :=
  if k = 0 then false else if k = 1 then decide (xs.length = 0) else if k = 7 ∨ k = 131 ∨ k = 137 then ptB xs 1 4 else if k = 68 then decide (0 < stampN xs) && ptB xs 2 (stampN xs) else if k = 148 then decide (xs.length = 2) else true
def rightO (k : Nat) (xs : List UInt8) : Bool := decide (xs.length ≤ 38) && demB k xs
theorem dem1 (A : Option Addr) (n c : Nat) (xs : List UInt8) (w : World) (hl : xs.length = n) (hrd : Rd w A (B8 xs)) (hn : n ≤ 140737488351232) :
    Calls Try.prog 43 #[.slice A n c] w fun e w' => e = .returned (.bool (ptB xs 1 4)) ∧ w = w' := by
  have cP := points_any A n c xs 1 4 w hl hrd hn (by decide) (by decide)
  have CP := Lib.hid cP
  clear cP hl hrd
  go_enter Try.func43, Try.ntmps43
  go_wp2_with fail
  refine CP.out.mono ?_
  rintro e w' ⟨rfl, rfl⟩
  go_wp2
  go_ret
  exact ⟨rfl, rfl⟩
theorem dem2 (A : Option Addr) (n c : Nat) (w : World) :
    Calls Try.prog 45 #[.slice A n c] w fun e w' => e = .returned (.bool false) ∧ w = w' := by
  go_enter Try.func45, Try.ntmps45
  go_wp2
  go_ret
  exact ⟨rfl, rfl⟩
theorem dem3 (A : Option Addr) (n c : Nat) (w : World) :
    Calls Try.prog 46 #[.slice A n c] w fun e w' => e = .returned (.bool (decide (n = 0))) ∧ w = w' := by
  have hd : ((n : Int) == 0) = decide (n = 0) := by
    by_cases h : n = 0
    · subst h; rfl
    · rw [decide_eq_false h, beq_eq_false_iff_ne]; omega
  generalize decide (n = 0) = b at hd
  go_enter Try.func46, Try.ntmps46
  go_wp2
  go_ret
  exact ⟨rfl, rfl⟩
theorem dem5 (A : Option Addr) (n c : Nat) (w : World) :
    Calls Try.prog 49 #[.slice A n c] w fun e w' => e = .returned (.bool (decide (n = 2))) ∧ w = w' := by
  have hd : ((n : Int) == 2) = decide (n = 2) := by
    by_cases h : n = 2
    · subst h; rfl
    · rw [decide_eq_false h, beq_eq_false_iff_ne]; omega
  generalize decide (n = 2) = b at hd
  go_enter Try.func49, Try.ntmps49
  go_wp2
  go_ret
  exact ⟨rfl, rfl⟩
theorem dem4 (A : Option Addr) (n c : Nat) (xs : List UInt8) (w : World) (hl : xs.length = n) (hrd : Rd w A (B8 xs)) (hn : n ≤ 140737488351232) :
    Calls Try.prog 47 #[.slice A n c] w fun e w' => e = .returned (.bool (decide (0 < stampN xs) && ptB xs 2 (stampN xs))) ∧ w = w' := by
  have cS := stamp_any A n c xs w hl hrd hn
  have hs8 := stampN_le xs
  have cP := fun (h : 1 ≤ stampN xs) => points_any A n c xs 2 (stampN xs) w hl hrd hn (by decide) ⟨h, hs8⟩
  generalize hS : stampN xs = s at *
  generalize hB : ptB xs 2 s = b at *
  have CS := Lib.hid cS
  have CP := Lib.hid cP
  clear cS cP hl hrd hS hB
  by_cases h : 0 < s
  · have hi : (0 : Int) < (s : Int) := by omega
    rw [decide_eq_true h, Bool.true_and]
    go_enter Try.func47, Try.ntmps47
    go_wp2_with fail
    refine CS.out.mono ?_
    rintro e w' ⟨rfl, rfl⟩
    go_wp2_with fail
    refine (CP.out (by omega)).mono ?_
    rintro e w' ⟨rfl, rfl⟩
    go_wp2
    go_ret
    exact ⟨rfl, rfl⟩
  · have hi : ¬ (0 : Int) < (s : Int) := by omega
    rw [decide_eq_false h, Bool.false_and]
    go_enter Try.func47, Try.ntmps47
    go_wp2_with fail
    refine CS.out.mono ?_
    rintro e w' ⟨rfl, rfl⟩
    go_wp2
    go_ret
    exact ⟨rfl, rfl⟩
/-- What every world of Right's region meets. -/
def OBx (w1 : World) (g : Nat) (k : Nat) (A : Option Addr) (n c : Nat) (W : World) : Prop := Fr [] w1 W ∧ W.heap[g]? = some (.cells #[.int .u8 k, .slice A n c] 35 (0, 0))
theorem obx0 {W : World} {g k n c : Nat} {A : Option Addr} (h : W.heap[g]? = some (.cells #[.int .u8 k, .slice A n c] 35 (0, 0))) : W.cell? ⟨g, 0, none⟩ = some (.int .u8 k) := by simp [World.cell?, h]
theorem obx1 {W : World} {g k n c : Nat} {A : Option Addr} (h : W.heap[g]? = some (.cells #[.int .u8 k, .slice A n c] 35 (0, 0))) : W.cell? ⟨g, 1, none⟩ = some (.slice A n c) := by simp [World.cell?, h]
set_option maxHeartbeats 2000000 in
theorem right_0 (k : Nat) (A : Option Addr) (n c : Nat) (xs : List UInt8) (w : World) (hl : xs.length = n) (hrd : Rd w A (B8 xs)) (h38 : n ≤ 38) (hk : k < 256) (hk' : k = 0) :
    Calls Try.prog 14 #[OV k A n c] w fun e w' => e = .returned (.bool false) ∧ Fr [] w w' := by
  have h38i : ¬ (38 : Int) < (n : Int) := by omega
  have hF0 : Fr [] w (w.alloc (.cells #[.int .u8 k, .slice A n c] 35)) := (Fr.refl _ _).alloc _
  have hB0 : (w.alloc (.cells #[.int .u8 k, .slice A n c] 35)).heap[w.heap.size]? = some (.cells #[.int .u8 k, .slice A n c] 35 (0, 0)) := heap_alloc_new w _
  have HL := Lib.hid hl
  have HRD := Lib.hid hrd
  have HK := Lib.hid hk'
  clear hl hrd hk'
  unfold OV
  go_enter Try.func14, Try.ntmps14
  go_wp2_with fail
  have hS0 : OBx (w.alloc (.cells #[.int .u8 k, .slice A n c] 35)) w.heap.size k A n c ((w.alloc (.cells #[.int .u8 k, .slice A n c] 35)).drew) := ⟨(Fr.refl _ _).drew, hB0⟩
  refine wp_region_held_drew (S := OBx (w.alloc (.cells #[.int .u8 k, .slice A n c] 35)) w.heap.size k A n c) (by kernel_rfl) hS0 (fun hS => ?_)
  clear hS0
  refine wpAnyH_take (i := 1) (v := ?_) rfl (by kernel_rfl) (by kernel_rfl) (by kernel_rfl) (fun _ _ _ h => h) (Or.inl ⟨by rfl, ?_⟩) hS ?_
  rotate_left 1
  · intro w hSw; obtain ⟨_, hb⟩ := hSw; have q0 := obx0 hb; go_simp; with_reducible rfl
  try simp only [Act.put, List.getElem_toArray, List.getElem_cons_succ, List.getElem_cons_zero, List.setIfInBounds_toArray, List.set_cons_zero, List.set_cons_succ]
  refine wpAnyH_take (i := 2) (v := ?_) rfl (by kernel_rfl) (by kernel_rfl) (by kernel_rfl) (fun _ _ _ h => h) (Or.inl ⟨by rfl, ?_⟩) hS ?_
  rotate_left 1
  · intro w hSw; obtain ⟨_, hb⟩ := hSw; have q0 := obx0 hb; go_simp; with_reducible rfl
  try simp only [Act.put, List.getElem_toArray, List.getElem_cons_succ, List.getElem_cons_zero, List.setIfInBounds_toArray, List.set_cons_zero, List.set_cons_succ]
  refine wpAnyH_ready (rs := [0]) (by kernel_rfl) (by simp) ?_
  refine AllReadyH.cons rfl (fun K hK => ?_) AllReadyH.nil
  go_simp
  refine (demands_any _).mono ?_
  rintro e w2 ⟨rfl, hm, hFd⟩
  refine hK.out _ _ ⟨hS.1.trans hFd, hFd.blk hS.2 (by simp)⟩ (fun hS2 => ?_)
  clear hK K
  replace hS := hS2
  clear hS2
  have hm' : w2.heap[w.heap.size + 1]? = some (.map demE 7) := by
    rw [← World.size_alloc w (.cells #[.int .u8 k, .slice A n c] 35)]; exact hm
  have hlk := look_yes Try.underlying68 Try.underlying5 _ _ _ _ hm' (k : Int) (.func (.func 45) #[] #[]) 0 (by rw [HK.out]; rfl)
  clear hm hm' hFd
  try simp only [Act.put, List.getElem_toArray, List.getElem_cons_succ, List.getElem_cons_zero, List.setIfInBounds_toArray, List.set_cons_zero, List.set_cons_succ]
  refine wpAnyH_ready (rs := [3]) (by kernel_rfl) (by simp) ?_
  refine AllReadyH.cons rfl (fun K hK => ?_) AllReadyH.nil
  go_simp
  refine hK.out _ _ hS (fun hS2 => ?_)
  clear hK K hS2 hlk
  try simp only [Act.put, List.getElem_toArray, List.getElem_cons_succ, List.getElem_cons_zero, List.setIfInBounds_toArray, List.set_cons_zero, List.set_cons_succ]
  refine wpAnyH_take (i := 4) (v := ?_) rfl (by kernel_rfl) (by kernel_rfl) (by kernel_rfl) (fun _ _ _ h => h) (Or.inl ⟨by rfl, ?_⟩) hS ?_
  rotate_left 1
  · intro w hSw; obtain ⟨_, hb⟩ := hSw; have q0 := obx0 hb; go_simp; with_reducible rfl
  try simp only [Act.put, List.getElem_toArray, List.getElem_cons_succ, List.getElem_cons_zero, List.setIfInBounds_toArray, List.set_cons_zero, List.set_cons_succ]
  refine wpAnyH_take (i := 5) (v := ?_) rfl (by kernel_rfl) (by kernel_rfl) (by kernel_rfl) (fun _ _ _ h => h) (Or.inl ⟨by rfl, ?_⟩) hS ?_
  rotate_left 1
  · intro w hSw; obtain ⟨_, hb⟩ := hSw; have q0 := obx0 hb; go_simp; with_reducible rfl
  try simp only [Act.put, List.getElem_toArray, List.getElem_cons_succ, List.getElem_cons_zero, List.setIfInBounds_toArray, List.set_cons_zero, List.set_cons_succ]
  refine wpAnyH_take (i := 6) (v := ?_) rfl (by kernel_rfl) (by kernel_rfl) (by kernel_rfl) (fun _ _ _ h => h) (Or.inl ⟨by rfl, ?_⟩) hS ?_
  rotate_left 1
  · intro w hSw; obtain ⟨_, hb⟩ := hSw; have q0 := obx0 hb; go_simp; with_reducible rfl
  try simp only [Act.put, List.getElem_toArray, List.getElem_cons_succ, List.getElem_cons_zero, List.setIfInBounds_toArray, List.set_cons_zero, List.set_cons_succ]
  refine wpAnyH_take (i := 7) (v := ?_) rfl (by kernel_rfl) (by kernel_rfl) (by kernel_rfl) (fun _ _ _ h => h) (Or.inl ⟨by rfl, ?_⟩) hS ?_
  rotate_left 1
  · intro w hSw; obtain ⟨_, hb⟩ := hSw; have q0 := obx0 hb; go_simp; with_reducible rfl
  try simp only [Act.put, List.getElem_toArray, List.getElem_cons_succ, List.getElem_cons_zero, List.setIfInBounds_toArray, List.set_cons_zero, List.set_cons_succ]
  refine wpAnyH_take (i := 8) (v := ?_) rfl (by kernel_rfl) (by kernel_rfl) (by kernel_rfl) (fun _ _ _ h => h) (Or.inl ⟨by rfl, ?_⟩) hS ?_
  rotate_left 1
  · intro w hSw; obtain ⟨_, hb⟩ := hSw; have q0 := obx0 hb; go_simp; with_reducible rfl
  try simp only [Act.put, List.getElem_toArray, List.getElem_cons_succ, List.getElem_cons_zero, List.setIfInBounds_toArray, List.set_cons_zero, List.set_cons_succ]
  refine wpAnyH_done (by kernel_rfl) ?_ _
  have hF2 := hF0.trans hS.1
  have q1 := obx1 hS.2
  have HF2 := Lib.hid hF2
  clear hS hF0 hB0 hF2
  go_wp2_with fail
  refine (dem2 A n c _).mono ?_
  rintro e w3 ⟨rfl, rfl⟩
  go_wp2
  go_ret
  exact ⟨rfl, HF2.out⟩
set_option maxHeartbeats 2000000 in
theorem right_1 (k : Nat) (A : Option Addr) (n c : Nat) (xs : List UInt8) (w : World) (hl : xs.length = n) (hrd : Rd w A (B8 xs)) (h38 : n ≤ 38) (hk : k < 256) (hk' : k = 1) :
    Calls Try.prog 14 #[OV k A n c] w fun e w' => e = .returned (.bool (decide (n = 0))) ∧ Fr [] w w' := by
  have h38i : ¬ (38 : Int) < (n : Int) := by omega
  have hF0 : Fr [] w (w.alloc (.cells #[.int .u8 k, .slice A n c] 35)) := (Fr.refl _ _).alloc _
  have hB0 : (w.alloc (.cells #[.int .u8 k, .slice A n c] 35)).heap[w.heap.size]? = some (.cells #[.int .u8 k, .slice A n c] 35 (0, 0)) := heap_alloc_new w _
  have HL := Lib.hid hl
  have HRD := Lib.hid hrd
  have HK := Lib.hid hk'
  clear hl hrd hk'
  unfold OV
  go_enter Try.func14, Try.ntmps14
  go_wp2_with fail
  have hS0 : OBx (w.alloc (.cells #[.int .u8 k, .slice A n c] 35)) w.heap.size k A n c ((w.alloc (.cells #[.int .u8 k, .slice A n c] 35)).drew) := ⟨(Fr.refl _ _).drew, hB0⟩
  refine wp_region_held_drew (S := OBx (w.alloc (.cells #[.int .u8 k, .slice A n c] 35)) w.heap.size k A n c) (by kernel_rfl) hS0 (fun hS => ?_)
  clear hS0
  refine wpAnyH_take (i := 1) (v := ?_) rfl (by kernel_rfl) (by kernel_rfl) (by kernel_rfl) (fun _ _ _ h => h) (Or.inl ⟨by rfl, ?_⟩) hS ?_
  rotate_left 1
  · intro w hSw; obtain ⟨_, hb⟩ := hSw; have q0 := obx0 hb; go_simp; with_reducible rfl
  try simp only [Act.put, List.getElem_toArray, List.getElem_cons_succ, List.getElem_cons_zero, List.setIfInBounds_toArray, List.set_cons_zero, List.set_cons_succ]
  refine wpAnyH_take (i := 2) (v := ?_) rfl (by kernel_rfl) (by kernel_rfl) (by kernel_rfl) (fun _ _ _ h => h) (Or.inl ⟨by rfl, ?_⟩) hS ?_
  rotate_left 1
  · intro w hSw; obtain ⟨_, hb⟩ := hSw; have q0 := obx0 hb; go_simp; with_reducible rfl
  try simp only [Act.put, List.getElem_toArray, List.getElem_cons_succ, List.getElem_cons_zero, List.setIfInBounds_toArray, List.set_cons_zero, List.set_cons_succ]
  refine wpAnyH_ready (rs := [0]) (by kernel_rfl) (by simp) ?_
  refine AllReadyH.cons rfl (fun K hK => ?_) AllReadyH.nil
  go_simp
  refine (demands_any _).mono ?_
  rintro e w2 ⟨rfl, hm, hFd⟩
  refine hK.out _ _ ⟨hS.1.trans hFd, hFd.blk hS.2 (by simp)⟩ (fun hS2 => ?_)
  clear hK K
  replace hS := hS2
  clear hS2
  have hm' : w2.heap[w.heap.size + 1]? = some (.map demE 7) := by
    rw [← World.size_alloc w (.cells #[.int .u8 k, .slice A n c] 35)]; exact hm
  have hlk := look_yes Try.underlying68 Try.underlying5 _ _ _ _ hm' (k : Int) (.func (.func 46) #[] #[]) 1 (by rw [HK.out]; rfl)
  clear hm hm' hFd
  try simp only [Act.put, List.getElem_toArray, List.getElem_cons_succ, List.getElem_cons_zero, List.setIfInBounds_toArray, List.set_cons_zero, List.set_cons_succ]
  refine wpAnyH_ready (rs := [3]) (by kernel_rfl) (by simp) ?_
  refine AllReadyH.cons rfl (fun K hK => ?_) AllReadyH.nil
  go_simp
  refine hK.out _ _ hS (fun hS2 => ?_)
  clear hK K hS2 hlk
  try simp only [Act.put, List.getElem_toArray, List.getElem_cons_succ, List.getElem_cons_zero, List.setIfInBounds_toArray, List.set_cons_zero, List.set_cons_succ]
  refine wpAnyH_take (i := 4) (v := ?_) rfl (by kernel_rfl) (by kernel_rfl) (by kernel_rfl) (fun _ _ _ h => h) (Or.inl ⟨by rfl, ?_⟩) hS ?_
  rotate_left 1
  · intro w hSw; obtain ⟨_, hb⟩ := hSw; have q0 := obx0 hb; go_simp; with_reducible rfl
  try simp only [Act.put, List.getElem_toArray, List.getElem_cons_succ, List.getElem_cons_zero, List.setIfInBounds_toArray, List.set_cons_zero, List.set_cons_succ]
  refine wpAnyH_take (i := 5) (v := ?_) rfl (by kernel_rfl) (by kernel_rfl) (by kernel_rfl) (fun _ _ _ h => h) (Or.inl ⟨by rfl, ?_⟩) hS ?_
  rotate_left 1
  · intro w hSw; obtain ⟨_, hb⟩ := hSw; have q0 := obx0 hb; go_simp; with_reducible rfl
  try simp only [Act.put, List.getElem_toArray, List.getElem_cons_succ, List.getElem_cons_zero, List.setIfInBounds_toArray, List.set_cons_zero, List.set_cons_succ]
  refine wpAnyH_take (i := 6) (v := ?_) rfl (by kernel_rfl) (by kernel_rfl) (by kernel_rfl) (fun _ _ _ h => h) (Or.inl ⟨by rfl, ?_⟩) hS ?_
  rotate_left 1
  · intro w hSw; obtain ⟨_, hb⟩ := hSw; have q0 := obx0 hb; go_simp; with_reducible rfl
  try simp only [Act.put, List.getElem_toArray, List.getElem_cons_succ, List.getElem_cons_zero, List.setIfInBounds_toArray, List.set_cons_zero, List.set_cons_succ]
  refine wpAnyH_take (i := 7) (v := ?_) rfl (by kernel_rfl) (by kernel_rfl) (by kernel_rfl) (fun _ _ _ h => h) (Or.inl ⟨by rfl, ?_⟩) hS ?_
  rotate_left 1
  · intro w hSw; obtain ⟨_, hb⟩ := hSw; have q0 := obx0 hb; go_simp; with_reducible rfl
  try simp only [Act.put, List.getElem_toArray, List.getElem_cons_succ, List.getElem_cons_zero, List.setIfInBounds_toArray, List.set_cons_zero, List.set_cons_succ]
  refine wpAnyH_take (i := 8) (v := ?_) rfl (by kernel_rfl) (by kernel_rfl) (by kernel_rfl) (fun _ _ _ h => h) (Or.inl ⟨by rfl, ?_⟩) hS ?_
  rotate_left 1
  · intro w hSw; obtain ⟨_, hb⟩ := hSw; have q0 := obx0 hb; go_simp; with_reducible rfl
  try simp only [Act.put, List.getElem_toArray, List.getElem_cons_succ, List.getElem_cons_zero, List.setIfInBounds_toArray, List.set_cons_zero, List.set_cons_succ]
  refine wpAnyH_done (by kernel_rfl) ?_ _
  have hF2 := hF0.trans hS.1
  have q1 := obx1 hS.2
  have HF2 := Lib.hid hF2
  clear hS hF0 hB0 hF2
  go_wp2_with fail
  refine (dem3 A n c _).mono ?_
  rintro e w3 ⟨rfl, rfl⟩
  go_wp2
  go_ret
  exact ⟨rfl, HF2.out⟩
set_option maxHeartbeats 2000000 in
theorem right_7 (k : Nat) (A : Option Addr) (n c : Nat) (xs : List UInt8) (w : World) (hl : xs.length = n) (hrd : Rd w A (B8 xs)) (h38 : n ≤ 38) (hk : k < 256) (hk' : k = 7) :
    Calls Try.prog 14 #[OV k A n c] w fun e w' => e = .returned (.bool (ptB xs 1 4)) ∧ Fr [] w w' := by
  have h38i : ¬ (38 : Int) < (n : Int) := by omega
  have hF0 : Fr [] w (w.alloc (.cells #[.int .u8 k, .slice A n c] 35)) := (Fr.refl _ _).alloc _
  have hB0 : (w.alloc (.cells #[.int .u8 k, .slice A n c] 35)).heap[w.heap.size]? = some (.cells #[.int .u8 k, .slice A n c] 35 (0, 0)) := heap_alloc_new w _
  have HL := Lib.hid hl
  have HRD := Lib.hid hrd
  have HK := Lib.hid hk'
  clear hl hrd hk'
  unfold OV
  go_enter Try.func14, Try.ntmps14
  go_wp2_with fail
  have hS0 : OBx (w.alloc (.cells #[.int .u8 k, .slice A n c] 35)) w.heap.size k A n c ((w.alloc (.cells #[.int .u8 k, .slice A n c] 35)).drew) := ⟨(Fr.refl _ _).drew, hB0⟩
  refine wp_region_held_drew (S := OBx (w.alloc (.cells #[.int .u8 k, .slice A n c] 35)) w.heap.size k A n c) (by kernel_rfl) hS0 (fun hS => ?_)
  clear hS0
  refine wpAnyH_take (i := 1) (v := ?_) rfl (by kernel_rfl) (by kernel_rfl) (by kernel_rfl) (fun _ _ _ h => h) (Or.inl ⟨by rfl, ?_⟩) hS ?_
  rotate_left 1
  · intro w hSw; obtain ⟨_, hb⟩ := hSw; have q0 := obx0 hb; go_simp; with_reducible rfl
  try simp only [Act.put, List.getElem_toArray, List.getElem_cons_succ, List.getElem_cons_zero, List.setIfInBounds_toArray, List.set_cons_zero, List.set_cons_succ]
  refine wpAnyH_take (i := 2) (v := ?_) rfl (by kernel_rfl) (by kernel_rfl) (by kernel_rfl) (fun _ _ _ h => h) (Or.inl ⟨by rfl, ?_⟩) hS ?_
  rotate_left 1
  · intro w hSw; obtain ⟨_, hb⟩ := hSw; have q0 := obx0 hb; go_simp; with_reducible rfl
  try simp only [Act.put, List.getElem_toArray, List.getElem_cons_succ, List.getElem_cons_zero, List.setIfInBounds_toArray, List.set_cons_zero, List.set_cons_succ]
  refine wpAnyH_ready (rs := [0]) (by kernel_rfl) (by simp) ?_
  refine AllReadyH.cons rfl (fun K hK => ?_) AllReadyH.nil
  go_simp
  refine (demands_any _).mono ?_
  rintro e w2 ⟨rfl, hm, hFd⟩
  refine hK.out _ _ ⟨hS.1.trans hFd, hFd.blk hS.2 (by simp)⟩ (fun hS2 => ?_)
  clear hK K
  replace hS := hS2
  clear hS2
  have hm' : w2.heap[w.heap.size + 1]? = some (.map demE 7) := by
    rw [← World.size_alloc w (.cells #[.int .u8 k, .slice A n c] 35)]; exact hm
  have hlk := look_yes Try.underlying68 Try.underlying5 _ _ _ _ hm' (k : Int) (.func (.func 43) #[] #[]) 2 (by rw [HK.out]; rfl)
  clear hm hm' hFd
  try simp only [Act.put, List.getElem_toArray, List.getElem_cons_succ, List.getElem_cons_zero, List.setIfInBounds_toArray, List.set_cons_zero, List.set_cons_succ]
  refine wpAnyH_ready (rs := [3]) (by kernel_rfl) (by simp) ?_
  refine AllReadyH.cons rfl (fun K hK => ?_) AllReadyH.nil
  go_simp
  refine hK.out _ _ hS (fun hS2 => ?_)
  clear hK K hS2 hlk
  try simp only [Act.put, List.getElem_toArray, List.getElem_cons_succ, List.getElem_cons_zero, List.setIfInBounds_toArray, List.set_cons_zero, List.set_cons_succ]
  refine wpAnyH_take (i := 4) (v := ?_) rfl (by kernel_rfl) (by kernel_rfl) (by kernel_rfl) (fun _ _ _ h => h) (Or.inl ⟨by rfl, ?_⟩) hS ?_
  rotate_left 1
  · intro w hSw; obtain ⟨_, hb⟩ := hSw; have q0 := obx0 hb; go_simp; with_reducible rfl
  try simp only [Act.put, List.getElem_toArray, List.getElem_cons_succ, List.getElem_cons_zero, List.setIfInBounds_toArray, List.set_cons_zero, List.set_cons_succ]
  refine wpAnyH_take (i := 5) (v := ?_) rfl (by kernel_rfl) (by kernel_rfl) (by kernel_rfl) (fun _ _ _ h => h) (Or.inl ⟨by rfl, ?_⟩) hS ?_
  rotate_left 1
  · intro w hSw; obtain ⟨_, hb⟩ := hSw; have q0 := obx0 hb; go_simp; with_reducible rfl
  try simp only [Act.put, List.getElem_toArray, List.getElem_cons_succ, List.getElem_cons_zero, List.setIfInBounds_toArray, List.set_cons_zero, List.set_cons_succ]
  refine wpAnyH_take (i := 6) (v := ?_) rfl (by kernel_rfl) (by kernel_rfl) (by kernel_rfl) (fun _ _ _ h => h) (Or.inl ⟨by rfl, ?_⟩) hS ?_
  rotate_left 1
  · intro w hSw; obtain ⟨_, hb⟩ := hSw; have q0 := obx0 hb; go_simp; with_reducible rfl
  try simp only [Act.put, List.getElem_toArray, List.getElem_cons_succ, List.getElem_cons_zero, List.setIfInBounds_toArray, List.set_cons_zero, List.set_cons_succ]
  refine wpAnyH_take (i := 7) (v := ?_) rfl (by kernel_rfl) (by kernel_rfl) (by kernel_rfl) (fun _ _ _ h => h) (Or.inl ⟨by rfl, ?_⟩) hS ?_
  rotate_left 1
  · intro w hSw; obtain ⟨_, hb⟩ := hSw; have q0 := obx0 hb; go_simp; with_reducible rfl
  try simp only [Act.put, List.getElem_toArray, List.getElem_cons_succ, List.getElem_cons_zero, List.setIfInBounds_toArray, List.set_cons_zero, List.set_cons_succ]
  refine wpAnyH_take (i := 8) (v := ?_) rfl (by kernel_rfl) (by kernel_rfl) (by kernel_rfl) (fun _ _ _ h => h) (Or.inl ⟨by rfl, ?_⟩) hS ?_
  rotate_left 1
  · intro w hSw; obtain ⟨_, hb⟩ := hSw; have q0 := obx0 hb; go_simp; with_reducible rfl
  try simp only [Act.put, List.getElem_toArray, List.getElem_cons_succ, List.getElem_cons_zero, List.setIfInBounds_toArray, List.set_cons_zero, List.set_cons_succ]
  refine wpAnyH_done (by kernel_rfl) ?_ _
  have hF2 := hF0.trans hS.1
  have q1 := obx1 hS.2
  have HF2 := Lib.hid hF2
  clear hS hF0 hB0 hF2
  go_wp2_with fail
  refine (dem1 A n c xs _ HL.out (HRD.out.fr HF2.out (by simp)) (by omega)).mono ?_
  rintro e w3 ⟨rfl, rfl⟩
  go_wp2
  go_ret
  exact ⟨rfl, HF2.out⟩
set_option maxHeartbeats 2000000 in
theorem right_131 (k : Nat) (A : Option Addr) (n c : Nat) (xs : List UInt8) (w : World) (hl : xs.length = n) (hrd : Rd w A (B8 xs)) (h38 : n ≤ 38) (hk : k < 256) (hk' : k = 131) :
    Calls Try.prog 14 #[OV k A n c] w fun e w' => e = .returned (.bool (ptB xs 1 4)) ∧ Fr [] w w' := by
  have h38i : ¬ (38 : Int) < (n : Int) := by omega
  have hF0 : Fr [] w (w.alloc (.cells #[.int .u8 k, .slice A n c] 35)) := (Fr.refl _ _).alloc _
  have hB0 : (w.alloc (.cells #[.int .u8 k, .slice A n c] 35)).heap[w.heap.size]? = some (.cells #[.int .u8 k, .slice A n c] 35 (0, 0)) := heap_alloc_new w _
  have HL := Lib.hid hl
  have HRD := Lib.hid hrd
  have HK := Lib.hid hk'
  clear hl hrd hk'
  unfold OV
  go_enter Try.func14, Try.ntmps14
  go_wp2_with fail
  have hS0 : OBx (w.alloc (.cells #[.int .u8 k, .slice A n c] 35)) w.heap.size k A n c ((w.alloc (.cells #[.int .u8 k, .slice A n c] 35)).drew) := ⟨(Fr.refl _ _).drew, hB0⟩
  refine wp_region_held_drew (S := OBx (w.alloc (.cells #[.int .u8 k, .slice A n c] 35)) w.heap.size k A n c) (by kernel_rfl) hS0 (fun hS => ?_)
  clear hS0
  refine wpAnyH_take (i := 1) (v := ?_) rfl (by kernel_rfl) (by kernel_rfl) (by kernel_rfl) (fun _ _ _ h => h) (Or.inl ⟨by rfl, ?_⟩) hS ?_
  rotate_left 1
  · intro w hSw; obtain ⟨_, hb⟩ := hSw; have q0 := obx0 hb; go_simp; with_reducible rfl
  try simp only [Act.put, List.getElem_toArray, List.getElem_cons_succ, List.getElem_cons_zero, List.setIfInBounds_toArray, List.set_cons_zero, List.set_cons_succ]
  refine wpAnyH_take (i := 2) (v := ?_) rfl (by kernel_rfl) (by kernel_rfl) (by kernel_rfl) (fun _ _ _ h => h) (Or.inl ⟨by rfl, ?_⟩) hS ?_
  rotate_left 1
  · intro w hSw; obtain ⟨_, hb⟩ := hSw; have q0 := obx0 hb; go_simp; with_reducible rfl
  try simp only [Act.put, List.getElem_toArray, List.getElem_cons_succ, List.getElem_cons_zero, List.setIfInBounds_toArray, List.set_cons_zero, List.set_cons_succ]
  refine wpAnyH_ready (rs := [0]) (by kernel_rfl) (by simp) ?_
  refine AllReadyH.cons rfl (fun K hK => ?_) AllReadyH.nil
  go_simp
  refine (demands_any _).mono ?_
  rintro e w2 ⟨rfl, hm, hFd⟩
  refine hK.out _ _ ⟨hS.1.trans hFd, hFd.blk hS.2 (by simp)⟩ (fun hS2 => ?_)
  clear hK K
  replace hS := hS2
  clear hS2
  have hm' : w2.heap[w.heap.size + 1]? = some (.map demE 7) := by
    rw [← World.size_alloc w (.cells #[.int .u8 k, .slice A n c] 35)]; exact hm
  have hlk := look_yes Try.underlying68 Try.underlying5 _ _ _ _ hm' (k : Int) (.func (.func 43) #[] #[]) 3 (by rw [HK.out]; rfl)
  clear hm hm' hFd
  try simp only [Act.put, List.getElem_toArray, List.getElem_cons_succ, List.getElem_cons_zero, List.setIfInBounds_toArray, List.set_cons_zero, List.set_cons_succ]
  refine wpAnyH_ready (rs := [3]) (by kernel_rfl) (by simp) ?_
  refine AllReadyH.cons rfl (fun K hK => ?_) AllReadyH.nil
  go_simp
  refine hK.out _ _ hS (fun hS2 => ?_)
  clear hK K hS2 hlk
  try simp only [Act.put, List.getElem_toArray, List.getElem_cons_succ, List.getElem_cons_zero, List.setIfInBounds_toArray, List.set_cons_zero, List.set_cons_succ]
  refine wpAnyH_take (i := 4) (v := ?_) rfl (by kernel_rfl) (by kernel_rfl) (by kernel_rfl) (fun _ _ _ h => h) (Or.inl ⟨by rfl, ?_⟩) hS ?_
  rotate_left 1
  · intro w hSw; obtain ⟨_, hb⟩ := hSw; have q0 := obx0 hb; go_simp; with_reducible rfl
  try simp only [Act.put, List.getElem_toArray, List.getElem_cons_succ, List.getElem_cons_zero, List.setIfInBounds_toArray, List.set_cons_zero, List.set_cons_succ]
  refine wpAnyH_take (i := 5) (v := ?_) rfl (by kernel_rfl) (by kernel_rfl) (by kernel_rfl) (fun _ _ _ h => h) (Or.inl ⟨by rfl, ?_⟩) hS ?_
  rotate_left 1
  · intro w hSw; obtain ⟨_, hb⟩ := hSw; have q0 := obx0 hb; go_simp; with_reducible rfl
  try simp only [Act.put, List.getElem_toArray, List.getElem_cons_succ, List.getElem_cons_zero, List.setIfInBounds_toArray, List.set_cons_zero, List.set_cons_succ]
  refine wpAnyH_take (i := 6) (v := ?_) rfl (by kernel_rfl) (by kernel_rfl) (by kernel_rfl) (fun _ _ _ h => h) (Or.inl ⟨by rfl, ?_⟩) hS ?_
  rotate_left 1
  · intro w hSw; obtain ⟨_, hb⟩ := hSw; have q0 := obx0 hb; go_simp; with_reducible rfl
  try simp only [Act.put, List.getElem_toArray, List.getElem_cons_succ, List.getElem_cons_zero, List.setIfInBounds_toArray, List.set_cons_zero, List.set_cons_succ]
  refine wpAnyH_take (i := 7) (v := ?_) rfl (by kernel_rfl) (by kernel_rfl) (by kernel_rfl) (fun _ _ _ h => h) (Or.inl ⟨by rfl, ?_⟩) hS ?_
  rotate_left 1
  · intro w hSw; obtain ⟨_, hb⟩ := hSw; have q0 := obx0 hb; go_simp; with_reducible rfl
  try simp only [Act.put, List.getElem_toArray, List.getElem_cons_succ, List.getElem_cons_zero, List.setIfInBounds_toArray, List.set_cons_zero, List.set_cons_succ]
  refine wpAnyH_take (i := 8) (v := ?_) rfl (by kernel_rfl) (by kernel_rfl) (by kernel_rfl) (fun _ _ _ h => h) (Or.inl ⟨by rfl, ?_⟩) hS ?_
  rotate_left 1
  · intro w hSw; obtain ⟨_, hb⟩ := hSw; have q0 := obx0 hb; go_simp; with_reducible rfl
  try simp only [Act.put, List.getElem_toArray, List.getElem_cons_succ, List.getElem_cons_zero, List.setIfInBounds_toArray, List.set_cons_zero, List.set_cons_succ]
  refine wpAnyH_done (by kernel_rfl) ?_ _
  have hF2 := hF0.trans hS.1
  have q1 := obx1 hS.2
  have HF2 := Lib.hid hF2
  clear hS hF0 hB0 hF2
  go_wp2_with fail
  refine (dem1 A n c xs _ HL.out (HRD.out.fr HF2.out (by simp)) (by omega)).mono ?_
  rintro e w3 ⟨rfl, rfl⟩
  go_wp2
  go_ret
  exact ⟨rfl, HF2.out⟩
set_option maxHeartbeats 2000000 in
theorem right_137 (k : Nat) (A : Option Addr) (n c : Nat) (xs : List UInt8) (w : World) (hl : xs.length = n) (hrd : Rd w A (B8 xs)) (h38 : n ≤ 38) (hk : k < 256) (hk' : k = 137) :
    Calls Try.prog 14 #[OV k A n c] w fun e w' => e = .returned (.bool (ptB xs 1 4)) ∧ Fr [] w w' := by
  have h38i : ¬ (38 : Int) < (n : Int) := by omega
  have hF0 : Fr [] w (w.alloc (.cells #[.int .u8 k, .slice A n c] 35)) := (Fr.refl _ _).alloc _
  have hB0 : (w.alloc (.cells #[.int .u8 k, .slice A n c] 35)).heap[w.heap.size]? = some (.cells #[.int .u8 k, .slice A n c] 35 (0, 0)) := heap_alloc_new w _
  have HL := Lib.hid hl
  have HRD := Lib.hid hrd
  have HK := Lib.hid hk'
  clear hl hrd hk'
  unfold OV
  go_enter Try.func14, Try.ntmps14
  go_wp2_with fail
  have hS0 : OBx (w.alloc (.cells #[.int .u8 k, .slice A n c] 35)) w.heap.size k A n c ((w.alloc (.cells #[.int .u8 k, .slice A n c] 35)).drew) := ⟨(Fr.refl _ _).drew, hB0⟩
  refine wp_region_held_drew (S := OBx (w.alloc (.cells #[.int .u8 k, .slice A n c] 35)) w.heap.size k A n c) (by kernel_rfl) hS0 (fun hS => ?_)
  clear hS0
  refine wpAnyH_take (i := 1) (v := ?_) rfl (by kernel_rfl) (by kernel_rfl) (by kernel_rfl) (fun _ _ _ h => h) (Or.inl ⟨by rfl, ?_⟩) hS ?_
  rotate_left 1
  · intro w hSw; obtain ⟨_, hb⟩ := hSw; have q0 := obx0 hb; go_simp; with_reducible rfl
  try simp only [Act.put, List.getElem_toArray, List.getElem_cons_succ, List.getElem_cons_zero, List.setIfInBounds_toArray, List.set_cons_zero, List.set_cons_succ]
  refine wpAnyH_take (i := 2) (v := ?_) rfl (by kernel_rfl) (by kernel_rfl) (by kernel_rfl) (fun _ _ _ h => h) (Or.inl ⟨by rfl, ?_⟩) hS ?_
  rotate_left 1
  · intro w hSw; obtain ⟨_, hb⟩ := hSw; have q0 := obx0 hb; go_simp; with_reducible rfl
  try simp only [Act.put, List.getElem_toArray, List.getElem_cons_succ, List.getElem_cons_zero, List.setIfInBounds_toArray, List.set_cons_zero, List.set_cons_succ]
  refine wpAnyH_ready (rs := [0]) (by kernel_rfl) (by simp) ?_
  refine AllReadyH.cons rfl (fun K hK => ?_) AllReadyH.nil
  go_simp
  refine (demands_any _).mono ?_
  rintro e w2 ⟨rfl, hm, hFd⟩
  refine hK.out _ _ ⟨hS.1.trans hFd, hFd.blk hS.2 (by simp)⟩ (fun hS2 => ?_)
  clear hK K
  replace hS := hS2
  clear hS2
  have hm' : w2.heap[w.heap.size + 1]? = some (.map demE 7) := by
    rw [← World.size_alloc w (.cells #[.int .u8 k, .slice A n c] 35)]; exact hm
  have hlk := look_yes Try.underlying68 Try.underlying5 _ _ _ _ hm' (k : Int) (.func (.func 43) #[] #[]) 4 (by rw [HK.out]; rfl)
  clear hm hm' hFd
  try simp only [Act.put, List.getElem_toArray, List.getElem_cons_succ, List.getElem_cons_zero, List.setIfInBounds_toArray, List.set_cons_zero, List.set_cons_succ]
  refine wpAnyH_ready (rs := [3]) (by kernel_rfl) (by simp) ?_
  refine AllReadyH.cons rfl (fun K hK => ?_) AllReadyH.nil
  go_simp
  refine hK.out _ _ hS (fun hS2 => ?_)
  clear hK K hS2 hlk
  try simp only [Act.put, List.getElem_toArray, List.getElem_cons_succ, List.getElem_cons_zero, List.setIfInBounds_toArray, List.set_cons_zero, List.set_cons_succ]
  refine wpAnyH_take (i := 4) (v := ?_) rfl (by kernel_rfl) (by kernel_rfl) (by kernel_rfl) (fun _ _ _ h => h) (Or.inl ⟨by rfl, ?_⟩) hS ?_
  rotate_left 1
  · intro w hSw; obtain ⟨_, hb⟩ := hSw; have q0 := obx0 hb; go_simp; with_reducible rfl
  try simp only [Act.put, List.getElem_toArray, List.getElem_cons_succ, List.getElem_cons_zero, List.setIfInBounds_toArray, List.set_cons_zero, List.set_cons_succ]
  refine wpAnyH_take (i := 5) (v := ?_) rfl (by kernel_rfl) (by kernel_rfl) (by kernel_rfl) (fun _ _ _ h => h) (Or.inl ⟨by rfl, ?_⟩) hS ?_
  rotate_left 1
  · intro w hSw; obtain ⟨_, hb⟩ := hSw; have q0 := obx0 hb; go_simp; with_reducible rfl
  try simp only [Act.put, List.getElem_toArray, List.getElem_cons_succ, List.getElem_cons_zero, List.setIfInBounds_toArray, List.set_cons_zero, List.set_cons_succ]
  refine wpAnyH_take (i := 6) (v := ?_) rfl (by kernel_rfl) (by kernel_rfl) (by kernel_rfl) (fun _ _ _ h => h) (Or.inl ⟨by rfl, ?_⟩) hS ?_
  rotate_left 1
  · intro w hSw; obtain ⟨_, hb⟩ := hSw; have q0 := obx0 hb; go_simp; with_reducible rfl
  try simp only [Act.put, List.getElem_toArray, List.getElem_cons_succ, List.getElem_cons_zero, List.setIfInBounds_toArray, List.set_cons_zero, List.set_cons_succ]
  refine wpAnyH_take (i := 7) (v := ?_) rfl (by kernel_rfl) (by kernel_rfl) (by kernel_rfl) (fun _ _ _ h => h) (Or.inl ⟨by rfl, ?_⟩) hS ?_
  rotate_left 1
  · intro w hSw; obtain ⟨_, hb⟩ := hSw; have q0 := obx0 hb; go_simp; with_reducible rfl
  try simp only [Act.put, List.getElem_toArray, List.getElem_cons_succ, List.getElem_cons_zero, List.setIfInBounds_toArray, List.set_cons_zero, List.set_cons_succ]
  refine wpAnyH_take (i := 8) (v := ?_) rfl (by kernel_rfl) (by kernel_rfl) (by kernel_rfl) (fun _ _ _ h => h) (Or.inl ⟨by rfl, ?_⟩) hS ?_
  rotate_left 1
  · intro w hSw; obtain ⟨_, hb⟩ := hSw; have q0 := obx0 hb; go_simp; with_reducible rfl
  try simp only [Act.put, List.getElem_toArray, List.getElem_cons_succ, List.getElem_cons_zero, List.setIfInBounds_toArray, List.set_cons_zero, List.set_cons_succ]
  refine wpAnyH_done (by kernel_rfl) ?_ _
  have hF2 := hF0.trans hS.1
  have q1 := obx1 hS.2
  have HF2 := Lib.hid hF2
  clear hS hF0 hB0 hF2
  go_wp2_with fail
  refine (dem1 A n c xs _ HL.out (HRD.out.fr HF2.out (by simp)) (by omega)).mono ?_
  rintro e w3 ⟨rfl, rfl⟩
  go_wp2
  go_ret
  exact ⟨rfl, HF2.out⟩
set_option maxHeartbeats 2000000 in
theorem right_68 (k : Nat) (A : Option Addr) (n c : Nat) (xs : List UInt8) (w : World) (hl : xs.length = n) (hrd : Rd w A (B8 xs)) (h38 : n ≤ 38) (hk : k < 256) (hk' : k = 68) :
    Calls Try.prog 14 #[OV k A n c] w fun e w' => e = .returned (.bool (decide (0 < stampN xs) && ptB xs 2 (stampN xs))) ∧ Fr [] w w' := by
  have h38i : ¬ (38 : Int) < (n : Int) := by omega
  have hF0 : Fr [] w (w.alloc (.cells #[.int .u8 k, .slice A n c] 35)) := (Fr.refl _ _).alloc _
  have hB0 : (w.alloc (.cells #[.int .u8 k, .slice A n c] 35)).heap[w.heap.size]? = some (.cells #[.int .u8 k, .slice A n c] 35 (0, 0)) := heap_alloc_new w _
  have HL := Lib.hid hl
  have HRD := Lib.hid hrd
  have HK := Lib.hid hk'
  clear hl hrd hk'
  unfold OV
  go_enter Try.func14, Try.ntmps14
  go_wp2_with fail
  have hS0 : OBx (w.alloc (.cells #[.int .u8 k, .slice A n c] 35)) w.heap.size k A n c ((w.alloc (.cells #[.int .u8 k, .slice A n c] 35)).drew) := ⟨(Fr.refl _ _).drew, hB0⟩
  refine wp_region_held_drew (S := OBx (w.alloc (.cells #[.int .u8 k, .slice A n c] 35)) w.heap.size k A n c) (by kernel_rfl) hS0 (fun hS => ?_)
  clear hS0
  refine wpAnyH_take (i := 1) (v := ?_) rfl (by kernel_rfl) (by kernel_rfl) (by kernel_rfl) (fun _ _ _ h => h) (Or.inl ⟨by rfl, ?_⟩) hS ?_
  rotate_left 1
  · intro w hSw; obtain ⟨_, hb⟩ := hSw; have q0 := obx0 hb; go_simp; with_reducible rfl
  try simp only [Act.put, List.getElem_toArray, List.getElem_cons_succ, List.getElem_cons_zero, List.setIfInBounds_toArray, List.set_cons_zero, List.set_cons_succ]
  refine wpAnyH_take (i := 2) (v := ?_) rfl (by kernel_rfl) (by kernel_rfl) (by kernel_rfl) (fun _ _ _ h => h) (Or.inl ⟨by rfl, ?_⟩) hS ?_
  rotate_left 1
  · intro w hSw; obtain ⟨_, hb⟩ := hSw; have q0 := obx0 hb; go_simp; with_reducible rfl
  try simp only [Act.put, List.getElem_toArray, List.getElem_cons_succ, List.getElem_cons_zero, List.setIfInBounds_toArray, List.set_cons_zero, List.set_cons_succ]
  refine wpAnyH_ready (rs := [0]) (by kernel_rfl) (by simp) ?_
  refine AllReadyH.cons rfl (fun K hK => ?_) AllReadyH.nil
  go_simp
  refine (demands_any _).mono ?_
  rintro e w2 ⟨rfl, hm, hFd⟩
  refine hK.out _ _ ⟨hS.1.trans hFd, hFd.blk hS.2 (by simp)⟩ (fun hS2 => ?_)
  clear hK K
  replace hS := hS2
  clear hS2
  have hm' : w2.heap[w.heap.size + 1]? = some (.map demE 7) := by
    rw [← World.size_alloc w (.cells #[.int .u8 k, .slice A n c] 35)]; exact hm
  have hlk := look_yes Try.underlying68 Try.underlying5 _ _ _ _ hm' (k : Int) (.func (.func 47) #[] #[]) 5 (by rw [HK.out]; rfl)
  clear hm hm' hFd
  try simp only [Act.put, List.getElem_toArray, List.getElem_cons_succ, List.getElem_cons_zero, List.setIfInBounds_toArray, List.set_cons_zero, List.set_cons_succ]
  refine wpAnyH_ready (rs := [3]) (by kernel_rfl) (by simp) ?_
  refine AllReadyH.cons rfl (fun K hK => ?_) AllReadyH.nil
  go_simp
  refine hK.out _ _ hS (fun hS2 => ?_)
  clear hK K hS2 hlk
  try simp only [Act.put, List.getElem_toArray, List.getElem_cons_succ, List.getElem_cons_zero, List.setIfInBounds_toArray, List.set_cons_zero, List.set_cons_succ]
  refine wpAnyH_take (i := 4) (v := ?_) rfl (by kernel_rfl) (by kernel_rfl) (by kernel_rfl) (fun _ _ _ h => h) (Or.inl ⟨by rfl, ?_⟩) hS ?_
  rotate_left 1
  · intro w hSw; obtain ⟨_, hb⟩ := hSw; have q0 := obx0 hb; go_simp; with_reducible rfl
  try simp only [Act.put, List.getElem_toArray, List.getElem_cons_succ, List.getElem_cons_zero, List.setIfInBounds_toArray, List.set_cons_zero, List.set_cons_succ]
  refine wpAnyH_take (i := 5) (v := ?_) rfl (by kernel_rfl) (by kernel_rfl) (by kernel_rfl) (fun _ _ _ h => h) (Or.inl ⟨by rfl, ?_⟩) hS ?_
  rotate_left 1
  · intro w hSw; obtain ⟨_, hb⟩ := hSw; have q0 := obx0 hb; go_simp; with_reducible rfl
  try simp only [Act.put, List.getElem_toArray, List.getElem_cons_succ, List.getElem_cons_zero, List.setIfInBounds_toArray, List.set_cons_zero, List.set_cons_succ]
  refine wpAnyH_take (i := 6) (v := ?_) rfl (by kernel_rfl) (by kernel_rfl) (by kernel_rfl) (fun _ _ _ h => h) (Or.inl ⟨by rfl, ?_⟩) hS ?_
  rotate_left 1
  · intro w hSw; obtain ⟨_, hb⟩ := hSw; have q0 := obx0 hb; go_simp; with_reducible rfl
  try simp only [Act.put, List.getElem_toArray, List.getElem_cons_succ, List.getElem_cons_zero, List.setIfInBounds_toArray, List.set_cons_zero, List.set_cons_succ]
  refine wpAnyH_take (i := 7) (v := ?_) rfl (by kernel_rfl) (by kernel_rfl) (by kernel_rfl) (fun _ _ _ h => h) (Or.inl ⟨by rfl, ?_⟩) hS ?_
  rotate_left 1
  · intro w hSw; obtain ⟨_, hb⟩ := hSw; have q0 := obx0 hb; go_simp; with_reducible rfl
  try simp only [Act.put, List.getElem_toArray, List.getElem_cons_succ, List.getElem_cons_zero, List.setIfInBounds_toArray, List.set_cons_zero, List.set_cons_succ]
  refine wpAnyH_take (i := 8) (v := ?_) rfl (by kernel_rfl) (by kernel_rfl) (by kernel_rfl) (fun _ _ _ h => h) (Or.inl ⟨by rfl, ?_⟩) hS ?_
  rotate_left 1
  · intro w hSw; obtain ⟨_, hb⟩ := hSw; have q0 := obx0 hb; go_simp; with_reducible rfl
  try simp only [Act.put, List.getElem_toArray, List.getElem_cons_succ, List.getElem_cons_zero, List.setIfInBounds_toArray, List.set_cons_zero, List.set_cons_succ]
  refine wpAnyH_done (by kernel_rfl) ?_ _
  have hF2 := hF0.trans hS.1
  have q1 := obx1 hS.2
  have HF2 := Lib.hid hF2
  clear hS hF0 hB0 hF2
  go_wp2_with fail
  refine (dem4 A n c xs _ HL.out (HRD.out.fr HF2.out (by simp)) (by omega)).mono ?_
  rintro e w3 ⟨rfl, rfl⟩
  go_wp2
  go_ret
  exact ⟨rfl, HF2.out⟩
set_option maxHeartbeats 2000000 in
theorem right_148 (k : Nat) (A : Option Addr) (n c : Nat) (xs : List UInt8) (w : World) (hl : xs.length = n) (hrd : Rd w A (B8 xs)) (h38 : n ≤ 38) (hk : k < 256) (hk' : k = 148) :
    Calls Try.prog 14 #[OV k A n c] w fun e w' => e = .returned (.bool (decide (n = 2))) ∧ Fr [] w w' := by
  have h38i : ¬ (38 : Int) < (n : Int) := by omega
  have hF0 : Fr [] w (w.alloc (.cells #[.int .u8 k, .slice A n c] 35)) := (Fr.refl _ _).alloc _
  have hB0 : (w.alloc (.cells #[.int .u8 k, .slice A n c] 35)).heap[w.heap.size]? = some (.cells #[.int .u8 k, .slice A n c] 35 (0, 0)) := heap_alloc_new w _
  have HL := Lib.hid hl
  have HRD := Lib.hid hrd
  have HK := Lib.hid hk'
  clear hl hrd hk'
  unfold OV
  go_enter Try.func14, Try.ntmps14
  go_wp2_with fail
  have hS0 : OBx (w.alloc (.cells #[.int .u8 k, .slice A n c] 35)) w.heap.size k A n c ((w.alloc (.cells #[.int .u8 k, .slice A n c] 35)).drew) := ⟨(Fr.refl _ _).drew, hB0⟩
  refine wp_region_held_drew (S := OBx (w.alloc (.cells #[.int .u8 k, .slice A n c] 35)) w.heap.size k A n c) (by kernel_rfl) hS0 (fun hS => ?_)
  clear hS0
  refine wpAnyH_take (i := 1) (v := ?_) rfl (by kernel_rfl) (by kernel_rfl) (by kernel_rfl) (fun _ _ _ h => h) (Or.inl ⟨by rfl, ?_⟩) hS ?_
  rotate_left 1
  · intro w hSw; obtain ⟨_, hb⟩ := hSw; have q0 := obx0 hb; go_simp; with_reducible rfl
  try simp only [Act.put, List.getElem_toArray, List.getElem_cons_succ, List.getElem_cons_zero, List.setIfInBounds_toArray, List.set_cons_zero, List.set_cons_succ]
  refine wpAnyH_take (i := 2) (v := ?_) rfl (by kernel_rfl) (by kernel_rfl) (by kernel_rfl) (fun _ _ _ h => h) (Or.inl ⟨by rfl, ?_⟩) hS ?_
  rotate_left 1
  · intro w hSw; obtain ⟨_, hb⟩ := hSw; have q0 := obx0 hb; go_simp; with_reducible rfl
  try simp only [Act.put, List.getElem_toArray, List.getElem_cons_succ, List.getElem_cons_zero, List.setIfInBounds_toArray, List.set_cons_zero, List.set_cons_succ]
  refine wpAnyH_ready (rs := [0]) (by kernel_rfl) (by simp) ?_
  refine AllReadyH.cons rfl (fun K hK => ?_) AllReadyH.nil
  go_simp
  refine (demands_any _).mono ?_
  rintro e w2 ⟨rfl, hm, hFd⟩
  refine hK.out _ _ ⟨hS.1.trans hFd, hFd.blk hS.2 (by simp)⟩ (fun hS2 => ?_)
  clear hK K
  replace hS := hS2
  clear hS2
  have hm' : w2.heap[w.heap.size + 1]? = some (.map demE 7) := by
    rw [← World.size_alloc w (.cells #[.int .u8 k, .slice A n c] 35)]; exact hm
  have hlk := look_yes Try.underlying68 Try.underlying5 _ _ _ _ hm' (k : Int) (.func (.func 49) #[] #[]) 6 (by rw [HK.out]; rfl)
  clear hm hm' hFd
  try simp only [Act.put, List.getElem_toArray, List.getElem_cons_succ, List.getElem_cons_zero, List.setIfInBounds_toArray, List.set_cons_zero, List.set_cons_succ]
  refine wpAnyH_ready (rs := [3]) (by kernel_rfl) (by simp) ?_
  refine AllReadyH.cons rfl (fun K hK => ?_) AllReadyH.nil
  go_simp
  refine hK.out _ _ hS (fun hS2 => ?_)
  clear hK K hS2 hlk
  try simp only [Act.put, List.getElem_toArray, List.getElem_cons_succ, List.getElem_cons_zero, List.setIfInBounds_toArray, List.set_cons_zero, List.set_cons_succ]
  refine wpAnyH_take (i := 4) (v := ?_) rfl (by kernel_rfl) (by kernel_rfl) (by kernel_rfl) (fun _ _ _ h => h) (Or.inl ⟨by rfl, ?_⟩) hS ?_
  rotate_left 1
  · intro w hSw; obtain ⟨_, hb⟩ := hSw; have q0 := obx0 hb; go_simp; with_reducible rfl
  try simp only [Act.put, List.getElem_toArray, List.getElem_cons_succ, List.getElem_cons_zero, List.setIfInBounds_toArray, List.set_cons_zero, List.set_cons_succ]
  refine wpAnyH_take (i := 5) (v := ?_) rfl (by kernel_rfl) (by kernel_rfl) (by kernel_rfl) (fun _ _ _ h => h) (Or.inl ⟨by rfl, ?_⟩) hS ?_
  rotate_left 1
  · intro w hSw; obtain ⟨_, hb⟩ := hSw; have q0 := obx0 hb; go_simp; with_reducible rfl
  try simp only [Act.put, List.getElem_toArray, List.getElem_cons_succ, List.getElem_cons_zero, List.setIfInBounds_toArray, List.set_cons_zero, List.set_cons_succ]
  refine wpAnyH_take (i := 6) (v := ?_) rfl (by kernel_rfl) (by kernel_rfl) (by kernel_rfl) (fun _ _ _ h => h) (Or.inl ⟨by rfl, ?_⟩) hS ?_
  rotate_left 1
  · intro w hSw; obtain ⟨_, hb⟩ := hSw; have q0 := obx0 hb; go_simp; with_reducible rfl
  try simp only [Act.put, List.getElem_toArray, List.getElem_cons_succ, List.getElem_cons_zero, List.setIfInBounds_toArray, List.set_cons_zero, List.set_cons_succ]
  refine wpAnyH_take (i := 7) (v := ?_) rfl (by kernel_rfl) (by kernel_rfl) (by kernel_rfl) (fun _ _ _ h => h) (Or.inl ⟨by rfl, ?_⟩) hS ?_
  rotate_left 1
  · intro w hSw; obtain ⟨_, hb⟩ := hSw; have q0 := obx0 hb; go_simp; with_reducible rfl
  try simp only [Act.put, List.getElem_toArray, List.getElem_cons_succ, List.getElem_cons_zero, List.setIfInBounds_toArray, List.set_cons_zero, List.set_cons_succ]
  refine wpAnyH_take (i := 8) (v := ?_) rfl (by kernel_rfl) (by kernel_rfl) (by kernel_rfl) (fun _ _ _ h => h) (Or.inl ⟨by rfl, ?_⟩) hS ?_
  rotate_left 1
  · intro w hSw; obtain ⟨_, hb⟩ := hSw; have q0 := obx0 hb; go_simp; with_reducible rfl
  try simp only [Act.put, List.getElem_toArray, List.getElem_cons_succ, List.getElem_cons_zero, List.setIfInBounds_toArray, List.set_cons_zero, List.set_cons_succ]
  refine wpAnyH_done (by kernel_rfl) ?_ _
  have hF2 := hF0.trans hS.1
  have q1 := obx1 hS.2
  have HF2 := Lib.hid hF2
  clear hS hF0 hB0 hF2
  go_wp2_with fail
  refine (dem5 A n c _).mono ?_
  rintro e w3 ⟨rfl, rfl⟩
  go_wp2
  go_ret
  exact ⟨rfl, HF2.out⟩
set_option maxHeartbeats 2000000 in
theorem right_x (k : Nat) (A : Option Addr) (n c : Nat) (xs : List UInt8) (w : World) (hl : xs.length = n) (hrd : Rd w A (B8 xs)) (h38 : n ≤ 38) (hk : k < 256) (hk' : k ≠ 0 ∧ k ≠ 1 ∧ k ≠ 7 ∧ k ≠ 131 ∧ k ≠ 137 ∧ k ≠ 68 ∧ k ≠ 148) :
    Calls Try.prog 14 #[OV k A n c] w fun e w' => e = .returned (.bool true) ∧ Fr [] w w' := by
  have h38i : ¬ (38 : Int) < (n : Int) := by omega
  have hF0 : Fr [] w (w.alloc (.cells #[.int .u8 k, .slice A n c] 35)) := (Fr.refl _ _).alloc _
  have hB0 : (w.alloc (.cells #[.int .u8 k, .slice A n c] 35)).heap[w.heap.size]? = some (.cells #[.int .u8 k, .slice A n c] 35 (0, 0)) := heap_alloc_new w _
  have HL := Lib.hid hl
  have HRD := Lib.hid hrd
  obtain ⟨iz, hi, hz, _, _⟩ := info_parts (P := Try.prog) (e := 38) (z := .nilFunc) (size := 1) (bytes := 8) (by kernel_rfl)
  have HZ : Hid (Try.prog.info? 38 = some iz) ∧ Hid (iz.zero = some .nilFunc) := ⟨hi, hz⟩
  clear hi hz
  have HK := Lib.hid hk'
  clear hl hrd hk'
  unfold OV
  go_enter Try.func14, Try.ntmps14
  go_wp2_with fail
  have hS0 : OBx (w.alloc (.cells #[.int .u8 k, .slice A n c] 35)) w.heap.size k A n c ((w.alloc (.cells #[.int .u8 k, .slice A n c] 35)).drew) := ⟨(Fr.refl _ _).drew, hB0⟩
  refine wp_region_held_drew (S := OBx (w.alloc (.cells #[.int .u8 k, .slice A n c] 35)) w.heap.size k A n c) (by kernel_rfl) hS0 (fun hS => ?_)
  clear hS0
  refine wpAnyH_take (i := 1) (v := ?_) rfl (by kernel_rfl) (by kernel_rfl) (by kernel_rfl) (fun _ _ _ h => h) (Or.inl ⟨by rfl, ?_⟩) hS ?_
  rotate_left 1
  · intro w hSw; obtain ⟨_, hb⟩ := hSw; have q0 := obx0 hb; go_simp; with_reducible rfl
  try simp only [Act.put, List.getElem_toArray, List.getElem_cons_succ, List.getElem_cons_zero, List.setIfInBounds_toArray, List.set_cons_zero, List.set_cons_succ]
  refine wpAnyH_take (i := 2) (v := ?_) rfl (by kernel_rfl) (by kernel_rfl) (by kernel_rfl) (fun _ _ _ h => h) (Or.inl ⟨by rfl, ?_⟩) hS ?_
  rotate_left 1
  · intro w hSw; obtain ⟨_, hb⟩ := hSw; have q0 := obx0 hb; go_simp; with_reducible rfl
  try simp only [Act.put, List.getElem_toArray, List.getElem_cons_succ, List.getElem_cons_zero, List.setIfInBounds_toArray, List.set_cons_zero, List.set_cons_succ]
  refine wpAnyH_ready (rs := [0]) (by kernel_rfl) (by simp) ?_
  refine AllReadyH.cons rfl (fun K hK => ?_) AllReadyH.nil
  go_simp
  refine (demands_any _).mono ?_
  rintro e w2 ⟨rfl, hm, hFd⟩
  refine hK.out _ _ ⟨hS.1.trans hFd, hFd.blk hS.2 (by simp)⟩ (fun hS2 => ?_)
  clear hK K
  replace hS := hS2
  clear hS2
  have hm' : w2.heap[w.heap.size + 1]? = some (.map demE 7) := by
    rw [← World.size_alloc w (.cells #[.int .u8 k, .slice A n c] 35)]; exact hm
  have hlk := look_no Try.underlying68 Try.underlying5 _ _ _ _ hm' (k : Int) .nilFunc (zero_run HZ.1.out HZ.2.out _) (by obtain ⟨h0, h1, h2, h3, h4, h5, h6⟩ := HK.out; have e : ∀ j : Int, (k : Int) ≠ j → ((k : Int) == j) = false := fun j h => beq_eq_false_iff_ne.2 h; simp only [demE, Instr.findNow, Instr.sameNow, if_true, e 0 (by omega), e 1 (by omega), e 7 (by omega), e 131 (by omega), e 137 (by omega), e 68 (by omega), e 148 (by omega)])
  clear hm hm' hFd
  try simp only [Act.put, List.getElem_toArray, List.getElem_cons_succ, List.getElem_cons_zero, List.setIfInBounds_toArray, List.set_cons_zero, List.set_cons_succ]
  refine wpAnyH_ready (rs := [3]) (by kernel_rfl) (by simp) ?_
  refine AllReadyH.cons rfl (fun K hK => ?_) AllReadyH.nil
  go_simp
  refine hK.out _ _ hS (fun hS2 => ?_)
  clear hK K hS2 hlk
  try simp only [Act.put, List.getElem_toArray, List.getElem_cons_succ, List.getElem_cons_zero, List.setIfInBounds_toArray, List.set_cons_zero, List.set_cons_succ]
  refine wpAnyH_take (i := 4) (v := ?_) rfl (by kernel_rfl) (by kernel_rfl) (by kernel_rfl) (fun _ _ _ h => h) (Or.inl ⟨by rfl, ?_⟩) hS ?_
  rotate_left 1
  · intro w hSw; obtain ⟨_, hb⟩ := hSw; have q0 := obx0 hb; go_simp; with_reducible rfl
  try simp only [Act.put, List.getElem_toArray, List.getElem_cons_succ, List.getElem_cons_zero, List.setIfInBounds_toArray, List.set_cons_zero, List.set_cons_succ]
  refine wpAnyH_take (i := 5) (v := ?_) rfl (by kernel_rfl) (by kernel_rfl) (by kernel_rfl) (fun _ _ _ h => h) (Or.inl ⟨by rfl, ?_⟩) hS ?_
  rotate_left 1
  · intro w hSw; obtain ⟨_, hb⟩ := hSw; have q0 := obx0 hb; go_simp; with_reducible rfl
  try simp only [Act.put, List.getElem_toArray, List.getElem_cons_succ, List.getElem_cons_zero, List.setIfInBounds_toArray, List.set_cons_zero, List.set_cons_succ]
  refine wpAnyH_take (i := 6) (v := ?_) rfl (by kernel_rfl) (by kernel_rfl) (by kernel_rfl) (fun _ _ _ h => h) (Or.inl ⟨by rfl, ?_⟩) hS ?_
  rotate_left 1
  · intro w hSw; obtain ⟨_, hb⟩ := hSw; have q0 := obx0 hb; go_simp; with_reducible rfl
  try simp only [Act.put, List.getElem_toArray, List.getElem_cons_succ, List.getElem_cons_zero, List.setIfInBounds_toArray, List.set_cons_zero, List.set_cons_succ]
  refine wpAnyH_take (i := 7) (v := ?_) rfl (by kernel_rfl) (by kernel_rfl) (by kernel_rfl) (fun _ _ _ h => h) (Or.inl ⟨by rfl, ?_⟩) hS ?_
  rotate_left 1
  · intro w hSw; obtain ⟨_, hb⟩ := hSw; have q0 := obx0 hb; go_simp; with_reducible rfl
  try simp only [Act.put, List.getElem_toArray, List.getElem_cons_succ, List.getElem_cons_zero, List.setIfInBounds_toArray, List.set_cons_zero, List.set_cons_succ]
  refine wpAnyH_take (i := 8) (v := ?_) rfl (by kernel_rfl) (by kernel_rfl) (by kernel_rfl) (fun _ _ _ h => h) (Or.inl ⟨by rfl, ?_⟩) hS ?_
  rotate_left 1
  · intro w hSw; obtain ⟨_, hb⟩ := hSw; have q0 := obx0 hb; go_simp; with_reducible rfl
  try simp only [Act.put, List.getElem_toArray, List.getElem_cons_succ, List.getElem_cons_zero, List.setIfInBounds_toArray, List.set_cons_zero, List.set_cons_succ]
  refine wpAnyH_done (by kernel_rfl) ?_ _
  have hF2 := hF0.trans hS.1
  have q1 := obx1 hS.2
  have HF2 := Lib.hid hF2
  clear hS hF0 hB0 hF2
  go_wp2_with fail
  go_ret
  exact ⟨rfl, HF2.out⟩
set_option maxHeartbeats 1000000 in
theorem right_long (k : Nat) (A : Option Addr) (n c : Nat) (w : World) (h38 : 38 < n) (hn : n ≤ 140737488351232) :
    Calls Try.prog 14 #[OV k A n c] w fun e w' => e = .returned (.bool false) ∧ Fr [] w w' := by
  have h38i : (38 : Int) < (n : Int) := by omega
  have hF0 : Fr [] w (w.alloc (.cells #[.int .u8 k, .slice A n c] 35)) := (Fr.refl _ _).alloc _
  unfold OV
  go_enter Try.func14, Try.ntmps14
  go_wp2
  go_ret
  exact ⟨rfl, hF0⟩
theorem right6_any (k : Nat) (A : Option Addr) (n c : Nat) (xs : List UInt8) (w : World) (hl : xs.length = n) (hrd : Rd w A (B8 xs)) (hn : n ≤ 140737488351232) (hk : k < 256) :
    Calls Try.prog 14 #[OV k A n c] w fun e w' => e = .returned (.bool (rightO k xs)) ∧ Fr [] w w' := by
  unfold rightO
  by_cases h38 : n ≤ 38
  · rw [hl, decide_eq_true h38, Bool.true_and]
    unfold demB
    split
    · exact right_0 k A n c xs w hl hrd h38 hk (by assumption)
    split
    · rw [hl]; exact right_1 k A n c xs w hl hrd h38 hk (by assumption)
    split
    · rename_i h
      rcases h with h | h | h
      · exact right_7 k A n c xs w hl hrd h38 hk h
      · exact right_131 k A n c xs w hl hrd h38 hk h
      · exact right_137 k A n c xs w hl hrd h38 hk h
    split
    · exact right_68 k A n c xs w hl hrd h38 hk (by assumption)
    split
    · rw [hl]; exact right_148 k A n c xs w hl hrd h38 hk (by assumption)
    · exact right_x k A n c xs w hl hrd h38 hk (by omega)
  · rw [hl, decide_eq_false h38, Bool.false_and]
    exact right_long k A n c w (by omega) hn
end Go.Proofs.Ytekhjpiopbkoaaa
