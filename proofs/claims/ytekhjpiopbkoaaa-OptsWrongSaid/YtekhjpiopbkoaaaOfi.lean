/- first: the first option of some bytes. -/
import Derived.Test.YtekhjpiopbkoaaaOex
import Derived.Test.YtekhjpiopbkoaaaXt
import Derived.Deep.RegionHeld
namespace Go.Proofs.Ytekhjpiopbkoaaa
open Go.RowKit
set_option linter.unusedVariables false
set_option maxRecDepth 100000

/-- Its kind, its size, what is wrong. -/
def firK (xs : List UInt8) : Nat × Nat × Nat :=
  if bt xs 0 = 1 then (1, 1, 0) else if xs.length < 2 then (0, 0, 60) else if bt xs 1 < 2 then (0, 0, 61) else if xs.length < bt xs 1 then (0, 0, 60) else if rightO (bt xs 0) ((xs.take (bt xs 1)).drop 2) then (bt xs 0, bt xs 1, 0) else (0, 0, 61)
/-- Its data. -/
def firD (xs : List UInt8) : List UInt8 := if (firK xs).2.2 = 0 ∧ bt xs 0 ≠ 1 then (xs.take (bt xs 1)).drop 2 else []
def FirP (xs : List UInt8) (w : World) (e : Ending) (w' : World) : Prop :=
  ∃ (A : Option Addr) (c : Nat), e = .returned (.tuple #[OV (firK xs).1 A (firD xs).length c, .int .i64 ((firK xs).2.1 : Nat), .int .i64 ((firK xs).2.2 : Nat)]) ∧ w'.ownsRow w.heap.size 5 1 (.slice A (firD xs).length c) (firD xs).length (B8 (firD xs)) ∧ Fr [] w w'
theorem fir_nil {xs : List UInt8} {w w' : World} {k s e : Nat} (hk : firK xs = (k, s, e)) (he : e ≠ 0 ∨ bt xs 0 = 1) (hF : Fr [] w w') : FirP xs w (.returned (.tuple #[OV k none 0 0, .int .i64 s, .int .i64 e])) w' := by
  have hd : firD xs = [] := by
    unfold firD; rw [hk]; refine if_neg ?_; rintro ⟨h1, h2⟩; rcases he with h | h
    · exact h h1
    · exact h2 h
  refine ⟨none, 0, ?_, ?_, hF⟩
  · rw [hk, hd]; rfl
  · rw [hd]; exact World.ownsRow_nil _ _ _ _
set_option maxHeartbeats 1000000 in
theorem first_early (b o n c : Nat) (xs : List UInt8) (w : World) (hl : xs.length = n) (hrd : Rd w (some ⟨b, o, none⟩) (B8 xs)) (hn1 : 1 ≤ n) (hn : n ≤ 140737488351232) (hc : bt xs 0 = 1 ∨ n < 2 ∨ bt xs 1 < 2 ∨ n < bt xs 1) :
    Calls Try.prog 40 #[.slice (some ⟨b, o, none⟩) n c] w (FirP xs w) := by
  have q0 := bt_cell (n := n) hrd (k := 0) (by omega)
  rw [Nat.add_zero] at q0
  have hF : ∀ cs, Fr [] w (w.alloc (.cells cs 35)) := fun cs => (Fr.refl _ _).alloc _
  have i0 : (0 : Int) < (n : Int) := by omega
  have h0l := bt_lt xs 0
  by_cases h0 : bt xs 0 = 1
  · have hP := fun W (hW : Fr [] w W) => fir_nil (xs := xs) (k := 1) (s := 1) (e := 0) (w := w) (w' := W) (by unfold firK; rw [if_pos h0]) (.inr h0) hW
    have e0 : (((bt xs 0 : Nat) : Int) == 1) = true := by rw [h0]; rfl
    have HP := Lib.hid hP
    have HF := Lib.hid hF
    clear hP hF h0 hl hrd hc
    generalize bt xs 0 = v at *
    have q0' := old_cell q0 (.cells #[.int .u8 0, .slice none 0 0] 35)
    go_enter Try.func40, Try.ntmps40
    go_wp2
    refine bodyPost_ret (v := .tuple #[OV 1 none 0 0, .int .i64 1, .int .i64 0]) (by simp [results, Try.results40, go_sem, OV]) rfl ?_
    exact HP.out _ (HF.out _)
  · have e0 : (((bt xs 0 : Nat) : Int) == 1) = false := by rw [beq_eq_false_iff_ne]; omega
    by_cases h2 : n < 2
    · have hP := fun W (hW : Fr [] w W) => fir_nil (xs := xs) (k := 0) (s := 0) (e := 60) (w := w) (w' := W) (by unfold firK; rw [if_neg h0, if_pos (by omega)]) (.inl (by decide)) hW
      have h2i : (n : Int) < 2 := by omega
      have HP := Lib.hid hP
      have HF := Lib.hid hF
      clear hP hF h0 hl hrd hc
      generalize bt xs 0 = v at *
      have q0' := old_cell q0 (.cells #[.int .u8 0, .slice none 0 0] 35)
      go_enter Try.func40, Try.ntmps40
      go_wp2
      refine bodyPost_ret (v := .tuple #[OV 0 none 0 0, .int .i64 0, .int .i64 60]) (by simp [results, Try.results40, go_sem, OV]) rfl ?_
      exact HP.out _ (HF.out _)
    · have h2i : ¬ (n : Int) < 2 := by omega
      have q1 := bt_cell (n := n) hrd (k := 1) (by omega)
      have i1 : (1 : Int) < (n : Int) := by omega
      have h1l := bt_lt xs 1
      by_cases h3 : bt xs 1 < 2
      · have hP := fun W (hW : Fr [] w W) => fir_nil (xs := xs) (k := 0) (s := 0) (e := 61) (w := w) (w' := W) (by unfold firK; rw [if_neg h0, if_neg (by omega), if_pos h3]) (.inl (by decide)) hW
        have HP := Lib.hid hP
        have HF := Lib.hid hF
        clear hP hF h0 hl hrd hc
        generalize bt xs 0 = v at *
        generalize bt xs 1 = u at *
        have h3i : (u : Int) < 2 := by omega
        have q0' := old_cell q0 (.cells #[.int .u8 0, .slice none 0 0] 35)
        have q1' := old_cell q1 (.cells #[.int .u8 0, .slice none 0 0] 35)
        go_enter Try.func40, Try.ntmps40
        go_wp2
        refine bodyPost_ret (v := .tuple #[OV 0 none 0 0, .int .i64 0, .int .i64 61]) (by simp [results, Try.results40, go_sem, OV]) rfl ?_
        exact HP.out _ (HF.out _)
      · have h4 : n < bt xs 1 := by omega
        have hP := fun W (hW : Fr [] w W) => fir_nil (xs := xs) (k := 0) (s := 0) (e := 60) (w := w) (w' := W) (by unfold firK; rw [if_neg h0, if_neg (by omega), if_neg h3, if_pos (by omega)]) (.inl (by decide)) hW
        have HP := Lib.hid hP
        have HF := Lib.hid hF
        clear hP hF h0 hl hrd hc
        generalize bt xs 0 = v at *
        generalize bt xs 1 = u at *
        have h3i : ¬ (u : Int) < 2 := by omega
        have h4i : (n : Int) < (u : Int) := by omega
        have q0' := old_cell q0 (.cells #[.int .u8 0, .slice none 0 0] 35)
        have q1' := old_cell q1 (.cells #[.int .u8 0, .slice none 0 0] 35)
        go_enter Try.func40, Try.ntmps40
        go_wp2
        refine bodyPost_ret (v := .tuple #[OV 0 none 0 0, .int .i64 0, .int .i64 60]) (by simp [results, Try.results40, go_sem, OV]) rfl ?_
        exact HP.out _ (HF.out _)
/-- The block of the result. -/
structure Res (w : World) (g : Nat) : Prop where
  h : w.heap[g]? = some (.cells #[.int .u8 0, .slice none 0 0] 35 (0, 0))
theorem Res.fr {w w' : World} {g : Nat} (h : Res w g) (hF : Fr [] w w') : Res w' g := ⟨hF.blk h.h (by simp)⟩
set_option maxHeartbeats 2000000 in
theorem first_go (b o n c : Nat) (xs : List UInt8) (w : World) (hl : xs.length = n) (hrd : Rd w (some ⟨b, o, none⟩) (B8 xs)) (hnc : n ≤ c) (hn : n ≤ 140737488351232) (h0 : bt xs 0 ≠ 1) (h2 : 2 ≤ bt xs 1) (h3 : bt xs 1 ≤ n) (hr : rightO (bt xs 0) ((xs.take (bt xs 1)).drop 2) = true) :
    Calls Try.prog 40 #[.slice (some ⟨b, o, none⟩) n c] w (FirP xs w) := by
  have hk : firK xs = (bt xs 0, bt xs 1, 0) := by unfold firK; rw [if_neg h0, if_neg (by omega), if_neg (by omega), if_neg (by omega), hr]; rfl
  obtain ⟨m, hm⟩ : ∃ m, m = bt xs 1 - 2 := ⟨_, rfl⟩
  have hdl : ((xs.take (bt xs 1)).drop 2).length = m := by rw [List.length_drop, List.length_take]; omega
  have hP : ∀ A5 c5 W, W.ownsRow w.heap.size 5 1 (.slice A5 m c5) m (B8 ((xs.take (bt xs 1)).drop 2)) → Fr [] w W → FirP xs w (.returned (.tuple #[OV (bt xs 0) A5 m c5, .int .i64 (bt xs 1 : Nat), .int .i64 0])) W := fun A5 c5 W h1 h2 => by
    have hd : firD xs = (xs.take (bt xs 1)).drop 2 := by unfold firD; rw [hk]; exact if_pos ⟨rfl, h0⟩
    refine ⟨A5, c5, ?_, ?_, h2⟩
    · rw [hk, hd, hdl]; rfl
    · rw [hd, hdl]; exact h1
  have q0 := bt_cell (n := n) hrd (k := 0) (by omega)
  rw [Nat.add_zero] at q0
  have q1 := bt_cell (n := n) hrd (k := 1) (by omega)
  have h0l := bt_lt xs 0
  have h1l := bt_lt xs 1
  have q0' := old_cell q0 (.cells #[.int .u8 0, .slice none 0 0] 35)
  have q1' := old_cell q1 (.cells #[.int .u8 0, .slice none 0 0] 35)
  have hF0 : Fr [] w (w.alloc (.cells #[.int .u8 0, .slice none 0 0] 35)) := (Fr.refl _ _).alloc _
  have hR0 : Res (w.alloc (.cells #[.int .u8 0, .slice none 0 0] 35)) w.heap.size := ⟨heap_alloc_new w _⟩
  have hrD : ∀ W, Fr [] (w.alloc (.cells #[.int .u8 0, .slice none 0 0] 35)) W → Rd W (some ⟨b, o + 2, none⟩) (B8 ((xs.take (bt xs 1)).drop 2)) := fun W hW => by
    have h1 := (hrd.fr (hF0.trans hW) (by simp)).take (bt xs 1)
    rw [B8_take] at h1
    have h2 := h1.drop 2
    rw [B8_drop] at h2
    simpa [add_lit] using h2
  obtain ⟨E, hE⟩ : ∃ E : Option Addr, E = if c = 2 then some ⟨b, o, none⟩ else some ⟨b, o + 2, none⟩ := ⟨_, rfl⟩
  have hif := hE.symm
  have cC := fun W (hW : Fr [] (w.alloc (.cells #[.int .u8 0, .slice none 0 0] 35)) W) => bclone E m (c - 2) ((xs.take (bt xs 1)).drop 2) W hdl (by
    rw [hE]
    split
    · have : (xs.take (bt xs 1)).drop 2 = [] := List.eq_nil_of_length_eq_zero (by omega)
      rw [this]; exact Rd.nil _ _
    · exact hrD W hW) (by omega)
  have cR := fun A5 c5 W (hW : Rd W A5 (B8 ((xs.take (bt xs 1)).drop 2))) => right6_any (bt xs 0) A5 m c5 ((xs.take (bt xs 1)).drop 2) W hdl hW (by omega) h0l
  rw [hr] at cR
  unfold CloneP at cC
  rw [hdl] at cC
  unfold OV at cR
  have e0 : (((bt xs 0 : Nat) : Int) == 1) = false := by rw [beq_eq_false_iff_ne]; omega
  generalize (xs.take (bt xs 1)).drop 2 = D at cC cR hP
  generalize bt xs 0 = v at *
  generalize bt xs 1 = u at *
  have i0 : (0 : Int) < (n : Int) := by omega
  have i1 : (1 : Int) < (n : Int) := by omega
  have i0n : 0 < n := by omega
  have i1n : 1 < n := by omega
  have h2n : ¬ (n : Int) < 2 := by omega
  have h3i : ¬ (u : Int) < 2 := by omega
  have h4i : ¬ (n : Int) < (u : Int) := by omega
  have sl1 : (0 : Int) ≤ 2 ∧ (2 : Int) ≤ (u : Int) ∧ (u : Int) ≤ (c : Int) := by omega
  have sl2 : (2 : Int) ≤ (u : Int) := by omega
  have sl3 : (u : Int) ≤ (c : Int) := by omega
  have sl4 : u - 2 = m := by omega
  have wu : IntKind.i64.wrap (u : Int) = (u : Int) := IntWalk.i64_in _ (by omega)
  have CC := Lib.hid cC
  have CR := Lib.hid cR
  have HP := Lib.hid hP
  have Q0 := Lib.hid q0'
  clear cC cR hP hk hdl hrd hl hrD hm hr q0 q1 hF0 hE
  go_enter Try.func40, Try.ntmps40
  go_wp2_with fail
  have hS0 : Fr [] (w.alloc (.cells #[.int .u8 0, .slice none 0 0] 35)) (w.alloc (.cells #[.int .u8 0, .slice none 0 0] 35)).drew := (Fr.refl _ _).drew
  refine wp_region_held_drew (S := Fr [] (w.alloc (.cells #[.int .u8 0, .slice none 0 0] 35))) (by kernel_rfl) hS0 (fun hS => ?_)
  clear hS0
  refine wpAnyH_take (i := 0) (v := ?_) rfl (by kernel_rfl) (by kernel_rfl) (by kernel_rfl) (fun _ _ _ h => h) (Or.inl ⟨by rfl, ?_⟩) hS ?_
  rotate_left 1
  · intro w hSw; have q0 := Fr.cell hSw Q0.out (by simp); go_simp; with_reducible rfl
  try simp only [Act.put, List.getElem_toArray, List.getElem_cons_zero, List.setIfInBounds_toArray, List.set_cons_zero, List.set_cons_succ]
  refine wpAnyH_take (i := 1) (v := ?_) rfl (by kernel_rfl) (by kernel_rfl) (by kernel_rfl) (fun _ _ _ h => h) (Or.inl ⟨by rfl, ?_⟩) hS ?_
  rotate_left 1
  · intro w hSw; have q0 := Fr.cell hSw Q0.out (by simp); go_simp; with_reducible rfl
  try simp only [Act.put, List.getElem_toArray, List.getElem_cons_succ, List.getElem_cons_zero, List.setIfInBounds_toArray, List.set_cons_zero, List.set_cons_succ]
  refine wpAnyH_take (i := 2) (v := ?_) rfl (by kernel_rfl) (by kernel_rfl) (by kernel_rfl) (fun _ _ _ h => h) (Or.inl ⟨by rfl, ?_⟩) hS ?_
  rotate_left 1
  · intro w hSw; have q0 := Fr.cell hSw Q0.out (by simp); go_simp; with_reducible rfl
  try simp only [Act.put, List.getElem_toArray, List.getElem_cons_succ, List.getElem_cons_zero, List.setIfInBounds_toArray, List.set_cons_zero, List.set_cons_succ]
  refine wpAnyH_take (i := 3) (v := ?_) rfl (by kernel_rfl) (by kernel_rfl) (by kernel_rfl) (fun _ _ _ h => h) (Or.inl ⟨by rfl, ?_⟩) hS ?_
  rotate_left 1
  · intro w hSw; have q0 := Fr.cell hSw Q0.out (by simp); go_simp; with_reducible rfl
  try simp only [Act.put, List.getElem_toArray, List.getElem_cons_succ, List.getElem_cons_zero, List.setIfInBounds_toArray, List.set_cons_zero, List.set_cons_succ]
  refine wpAnyH_take (i := 4) (v := ?_) rfl (by kernel_rfl) (by kernel_rfl) (by kernel_rfl) (fun _ _ _ h => h) (Or.inl ⟨by rfl, ?_⟩) hS ?_
  rotate_left 1
  · intro w hSw; have q0 := Fr.cell hSw Q0.out (by simp); go_simp; with_reducible rfl
  try simp only [Act.put, List.getElem_toArray, List.getElem_cons_succ, List.getElem_cons_zero, List.setIfInBounds_toArray, List.set_cons_zero, List.set_cons_succ]
  refine wpAnyH_take (i := 5) (v := ?_) rfl (by kernel_rfl) (by kernel_rfl) (by kernel_rfl) (fun _ _ _ h => h) (Or.inl ⟨by rfl, ?_⟩) hS ?_
  rotate_left 1
  · intro w hSw; have q0 := Fr.cell hSw Q0.out (by simp); go_simp; with_reducible rfl
  try simp only [Act.put, List.getElem_toArray, List.getElem_cons_succ, List.getElem_cons_zero, List.setIfInBounds_toArray, List.set_cons_zero, List.set_cons_succ]
  refine wpAnyH_ready (rs := [6, 8]) (by kernel_rfl) (by simp) ?_
  refine AllReadyH.cons rfl (fun K hK => ?_) (AllReadyH.cons rfl (fun K hK => ?_) AllReadyH.nil)
  · go_simp
    refine (CC.out _ hS).mono ?_
    rintro e wc ⟨A5, c5, rfl, o5, hF5⟩
    have hl0 := hS.size
    rw [World.size_alloc] at hl0
    have O5 := Lib.hid (own_ext (base' := w.heap.size + 1) o5 (by omega))
    have hlt : ∀ k, Value.ownBlock (.slice A5 m c5) = some k → k < wc.heap.size := fun k hk => (o5.lt k hk).2
    refine hK.out _ _ (hS.trans hF5) (fun hS2 => ?_)
    clear hK K CC hl0
    replace hS := hS2
    clear hS2
    try simp only [Act.put, List.getElem_toArray, List.getElem_cons_succ, List.getElem_cons_zero, List.setIfInBounds_toArray, List.set_cons_zero, List.set_cons_succ]
    refine wpAnyH_take (i := 7) (v := ?_) rfl (by kernel_rfl) (by kernel_rfl) (by kernel_rfl) (fun _ _ _ h => h) (Or.inl ⟨by rfl, ?_⟩) hS ?_
    rotate_left 1
    · intro w hSw; have q0 := Fr.cell hSw Q0.out (by simp); go_simp; with_reducible rfl
    try simp only [Act.put, List.getElem_toArray, List.getElem_cons_succ, List.getElem_cons_zero, List.setIfInBounds_toArray, List.set_cons_zero, List.set_cons_succ]
    refine wpAnyH_ready (rs := [8]) (by kernel_rfl) (by simp) ?_
    refine AllReadyH.cons rfl (fun K hK => ?_) AllReadyH.nil
    go_simp
    have HZ := Lib.hid (heap_alloc_new wc (.cells #[.int .u8 0, .slice none 0 0] 35))
    have HFS := Lib.hid (hS.alloc (.cells #[.int .u8 0, .slice none 0 0] 35))
    have OS := Lib.hid (((Fr.refl [] wc).alloc (.cells #[.int .u8 0, .slice none 0 0] 35)).own O5.out (by simp))
    have hne : ∀ k, Value.ownBlock (.slice A5 m c5) = some k → k ≠ wc.heap.size := fun k hk => by have := hlt k hk; omega
    have hgb : w.heap.size < wc.heap.size := by have := hS.size; rw [World.size_alloc] at this; omega
    refine hK.out _ _ (hS.alloc _) (fun hS2 => ?_)
    clear hK K hS2 O5 hlt
    obtain ⟨wS, hwS⟩ : ∃ wS, wS = wc.alloc (.cells #[.int .u8 0, .slice none 0 0] 35) := ⟨_, rfl⟩
    rw [← hwS] at HZ HFS OS ⊢
    clear hwS
    generalize wc.heap.size = gB at HZ hne hgb ⊢
    try simp only [Act.put, List.getElem_toArray, List.getElem_cons_succ, List.getElem_cons_zero, List.setIfInBounds_toArray, List.set_cons_zero, List.set_cons_succ]
    refine wpAnyH_ready (rs := [9]) (by kernel_rfl) (by simp) ?_
    refine AllReadyH.cons rfl (fun K hK => ?_) AllReadyH.nil
    rw [if_pos (by rfl)]
    refine wp_store_row 35 _ _ rfl (gB) #[.int .u8 v, .slice A5 m c5] rfl rfl _ _ HZ.out (by kernel_rfl) rfl (by simp [Value.oneCell']) ?_
    have hFE : Fr [gB] wS (wS.setRow gB #[.int .u8 v, .slice A5 m c5]) := (Fr.refl _ _).setRow (.inl (by simp)) _
    have hG : (wS.setRow gB #[.int .u8 v, .slice A5 m c5]).heap[gB]? = some (.cells #[.int .u8 v, .slice A5 m c5] 35 (0, 0)) := setRow_heap wS _ _ _ _ _ HZ.out
    have hF05 : Fr [] (w.alloc (.cells #[.int .u8 0, .slice none 0 0] 35)) (wS.setRow gB #[.int .u8 v, .slice A5 m c5]) := HFS.out.trans2 hFE (by first | (simp; done) | (simp; omega))
    have oE := hFE.own OS.out (fun k hk => by have := hne k hk; simp; omega)
    generalize wS.setRow gB #[.int .u8 v, .slice A5 m c5] = wE at hG hF05 oE ⊢
    refine hK.out _ _ hF05 (fun hS => ?_)
    clear hK K HZ HFS OS hne hFE
    try simp only [Act.put, List.getElem_toArray, List.getElem_cons_succ, List.getElem_cons_zero]
    refine wpAnyH_done (by kernel_rfl) ?_ _
    have HG := Lib.hid hG
    have HF5 := Lib.hid hF05
    have OE := Lib.hid oE
    have HR := Lib.hid (hR0.fr hF05)
    clear hG hF05 oE hR0 hS
    go_wp2_with (refine wpList_load_row rfl 35 _ rfl (gB) rfl _ _ _ _ HG.out Try.underlying35 rfl (by kernel_rfl) ?_)
    refine (CR.out A5 c5 _ (Rd.own OE.out)).mono ?_
    rintro e w8 ⟨rfl, hF8⟩
    have hR8 := HR.out.fr hF8
    have hG8 := hF8.blk HG.out (by simp)
    have o8 := hF8.own OE.out (by simp)
    have hF08 := HF5.out.trans hF8
    have HG8 := Lib.hid hG8
    have HR8 := Lib.hid hR8
    have O8 := Lib.hid o8
    have HF08 := Lib.hid hF08
    clear hG8 hR8 o8 hF08 hF8 CR HG HR OE HF5
    go_wp2_with (first | (refine wpList_load_row rfl 35 _ rfl (gB) rfl _ _ _ _ HG8.out Try.underlying35 rfl (by kernel_rfl) ?_) | (refine wpList_store_row rfl 35 _ _ rfl (w.heap.size) #[.int .u8 v, .slice A5 m c5] rfl rfl _ _ HR8.out.h (by kernel_rfl) rfl (by simp [Value.oneCell']) ?_))
    have hFE : Fr [w.heap.size] w8 (w8.setRow w.heap.size #[.int .u8 v, .slice A5 m c5]) := (Fr.refl _ _).setRow (.inl (by simp)) _
    have hRE : (w8.setRow w.heap.size #[.int .u8 v, .slice A5 m c5]).heap[w.heap.size]? = some (.cells #[.int .u8 v, .slice A5 m c5] 35 (0, 0)) := setRow_heap w8 _ _ _ _ _ HR8.out.h
    have oE := hFE.own O8.out (fun k hk => by have := (O8.out.lt k hk).1; simp; omega)
    have hFw : Fr [] w (w8.setRow w.heap.size #[.int .u8 v, .slice A5 m c5]) := (((Fr.refl [] w).alloc (.cells #[.int .u8 0, .slice none 0 0] 35)).trans HF08.out).trans2 hFE (by simp)
    have x0 := obx0 hRE
    have x1 := obx1 hRE
    refine bodyPost_ret (v := .tuple #[OV v A5 m c5, .int .i64 u, .int .i64 0]) (by simp [results, Try.results40, go_sem, OV, x0, x1]) rfl ?_
    exact HP.out A5 c5 _ (own_ext oE (by omega)) hFw
  · go_simp
    have HZ0 : Hid ((((w.alloc (.cells #[.int .u8 0, .slice none 0 0] 35)).alloc (.cells #[.int .u8 0, .slice none 0 0] 35)).drew).heap[w.heap.size + 1]? = some (.cells #[.int .u8 0, .slice none 0 0] 35 (0, 0))) := by
      show ((w.alloc (.cells #[.int .u8 0, .slice none 0 0] 35)).alloc (.cells #[.int .u8 0, .slice none 0 0] 35)).heap[w.heap.size + 1]? = _
      rw [← World.size_alloc w (.cells #[.int .u8 0, .slice none 0 0] 35)]; exact heap_alloc_new _ _
    have hF9 : Fr [] (w.alloc (.cells #[.int .u8 0, .slice none 0 0] 35)) ((w.alloc (.cells #[.int .u8 0, .slice none 0 0] 35)).alloc (.cells #[.int .u8 0, .slice none 0 0] 35)).drew := ((Fr.refl _ _).alloc _).drew
    have hlz : w.heap.size + 1 < ((w.alloc (.cells #[.int .u8 0, .slice none 0 0] 35)).alloc (.cells #[.int .u8 0, .slice none 0 0] 35)).drew.heap.size := by show _ < ((w.alloc (.cells #[.int .u8 0, .slice none 0 0] 35)).alloc (.cells #[.int .u8 0, .slice none 0 0] 35)).heap.size; rw [World.size_alloc, World.size_alloc]; omega
    refine hK.out _ _ hF9 (fun hS2 => ?_)
    clear hK K hS2
    replace hS := hF9
    clear hF9
    generalize ((w.alloc (.cells #[.int .u8 0, .slice none 0 0] 35)).alloc (.cells #[.int .u8 0, .slice none 0 0] 35)).drew = wz at HZ0 hS hlz ⊢
    have hgb : w.heap.size < w.heap.size + 1 := by omega
    try simp only [Act.put, List.getElem_toArray, List.getElem_cons_succ, List.getElem_cons_zero, List.setIfInBounds_toArray, List.set_cons_zero, List.set_cons_succ]
    refine wpAnyH_ready (rs := [6]) (by kernel_rfl) (by simp) ?_
    refine AllReadyH.cons rfl (fun K hK => ?_) AllReadyH.nil
    go_simp
    refine (CC.out _ hS).mono ?_
    rintro e wc ⟨A5, c5, rfl, o5, hF5⟩
    have hl0 := hS.size
    rw [World.size_alloc] at hl0
    have O5 := Lib.hid (own_ext (base' := w.heap.size + 1) o5 (by omega))
    have hne : ∀ k, Value.ownBlock (.slice A5 m c5) = some k → k ≠ w.heap.size + 1 := fun k hk => by have := (o5.lt k hk).1; omega
    have HZ := Lib.hid (hF5.blk HZ0.out (by simp))
    have HFS := Lib.hid (hS.trans hF5)
    have OS := O5
    refine hK.out _ _ (hS.trans hF5) (fun hS2 => ?_)
    clear hK K CC hl0 HZ0 hlz
    replace hS := hS2
    clear hS2
    obtain ⟨wS, hwS⟩ : ∃ wS, wS = wc := ⟨_, rfl⟩
    rw [← hwS] at HZ HFS OS hS ⊢
    clear hwS
    try simp only [Act.put, List.getElem_toArray, List.getElem_cons_succ, List.getElem_cons_zero, List.setIfInBounds_toArray, List.set_cons_zero, List.set_cons_succ]
    refine wpAnyH_take (i := 7) (v := ?_) rfl (by kernel_rfl) (by kernel_rfl) (by kernel_rfl) (fun _ _ _ h => h) (Or.inl ⟨by rfl, ?_⟩) hS ?_
    rotate_left 1
    · intro w hSw; have q0 := Fr.cell hSw Q0.out (by simp); go_simp; with_reducible rfl
    try simp only [Act.put, List.getElem_toArray, List.getElem_cons_succ, List.getElem_cons_zero, List.setIfInBounds_toArray, List.set_cons_zero, List.set_cons_succ]
    refine wpAnyH_ready (rs := [9]) (by kernel_rfl) (by simp) ?_
    refine AllReadyH.cons rfl (fun K hK => ?_) AllReadyH.nil
    rw [if_pos (by rfl)]
    refine wp_store_row 35 _ _ rfl ((w.heap.size + 1)) #[.int .u8 v, .slice A5 m c5] rfl rfl _ _ HZ.out (by kernel_rfl) rfl (by simp [Value.oneCell']) ?_
    have hFE : Fr [(w.heap.size + 1)] wS (wS.setRow (w.heap.size + 1) #[.int .u8 v, .slice A5 m c5]) := (Fr.refl _ _).setRow (.inl (by simp)) _
    have hG : (wS.setRow (w.heap.size + 1) #[.int .u8 v, .slice A5 m c5]).heap[(w.heap.size + 1)]? = some (.cells #[.int .u8 v, .slice A5 m c5] 35 (0, 0)) := setRow_heap wS _ _ _ _ _ HZ.out
    have hF05 : Fr [] (w.alloc (.cells #[.int .u8 0, .slice none 0 0] 35)) (wS.setRow (w.heap.size + 1) #[.int .u8 v, .slice A5 m c5]) := HFS.out.trans2 hFE (by first | (simp; done) | (simp; omega))
    have oE := hFE.own OS.out (fun k hk => by have := hne k hk; simp; omega)
    generalize wS.setRow (w.heap.size + 1) #[.int .u8 v, .slice A5 m c5] = wE at hG hF05 oE ⊢
    refine hK.out _ _ hF05 (fun hS => ?_)
    clear hK K HZ HFS OS hne hFE
    try simp only [Act.put, List.getElem_toArray, List.getElem_cons_succ, List.getElem_cons_zero]
    refine wpAnyH_done (by kernel_rfl) ?_ _
    have HG := Lib.hid hG
    have HF5 := Lib.hid hF05
    have OE := Lib.hid oE
    have HR := Lib.hid (hR0.fr hF05)
    clear hG hF05 oE hR0 hS
    go_wp2_with (refine wpList_load_row rfl 35 _ rfl ((w.heap.size + 1)) rfl _ _ _ _ HG.out Try.underlying35 rfl (by kernel_rfl) ?_)
    refine (CR.out A5 c5 _ (Rd.own OE.out)).mono ?_
    rintro e w8 ⟨rfl, hF8⟩
    have hR8 := HR.out.fr hF8
    have hG8 := hF8.blk HG.out (by simp)
    have o8 := hF8.own OE.out (by simp)
    have hF08 := HF5.out.trans hF8
    have HG8 := Lib.hid hG8
    have HR8 := Lib.hid hR8
    have O8 := Lib.hid o8
    have HF08 := Lib.hid hF08
    clear hG8 hR8 o8 hF08 hF8 CR HG HR OE HF5
    go_wp2_with (first | (refine wpList_load_row rfl 35 _ rfl ((w.heap.size + 1)) rfl _ _ _ _ HG8.out Try.underlying35 rfl (by kernel_rfl) ?_) | (refine wpList_store_row rfl 35 _ _ rfl (w.heap.size) #[.int .u8 v, .slice A5 m c5] rfl rfl _ _ HR8.out.h (by kernel_rfl) rfl (by simp [Value.oneCell']) ?_))
    have hFE : Fr [w.heap.size] w8 (w8.setRow w.heap.size #[.int .u8 v, .slice A5 m c5]) := (Fr.refl _ _).setRow (.inl (by simp)) _
    have hRE : (w8.setRow w.heap.size #[.int .u8 v, .slice A5 m c5]).heap[w.heap.size]? = some (.cells #[.int .u8 v, .slice A5 m c5] 35 (0, 0)) := setRow_heap w8 _ _ _ _ _ HR8.out.h
    have oE := hFE.own O8.out (fun k hk => by have := (O8.out.lt k hk).1; simp; omega)
    have hFw : Fr [] w (w8.setRow w.heap.size #[.int .u8 v, .slice A5 m c5]) := (((Fr.refl [] w).alloc (.cells #[.int .u8 0, .slice none 0 0] 35)).trans HF08.out).trans2 hFE (by simp)
    have x0 := obx0 hRE
    have x1 := obx1 hRE
    refine bodyPost_ret (v := .tuple #[OV v A5 m c5, .int .i64 u, .int .i64 0]) (by simp [results, Try.results40, go_sem, OV, x0, x1]) rfl ?_
    exact HP.out A5 c5 _ (own_ext oE (by omega)) hFw
set_option maxHeartbeats 2000000 in
theorem first_bad (b o n c : Nat) (xs : List UInt8) (w : World) (hl : xs.length = n) (hrd : Rd w (some ⟨b, o, none⟩) (B8 xs)) (hnc : n ≤ c) (hn : n ≤ 140737488351232) (h0 : bt xs 0 ≠ 1) (h2 : 2 ≤ bt xs 1) (h3 : bt xs 1 ≤ n) (hr : rightO (bt xs 0) ((xs.take (bt xs 1)).drop 2) = false) :
    Calls Try.prog 40 #[.slice (some ⟨b, o, none⟩) n c] w (FirP xs w) := by
  have hk : firK xs = (0, 0, 61) := by unfold firK; rw [if_neg h0, if_neg (by omega), if_neg (by omega), if_neg (by omega), hr]; rfl
  obtain ⟨m, hm⟩ : ∃ m, m = bt xs 1 - 2 := ⟨_, rfl⟩
  have hdl : ((xs.take (bt xs 1)).drop 2).length = m := by rw [List.length_drop, List.length_take]; omega
  have hP : ∀ W, Fr [] w W → FirP xs w (.returned (.tuple #[OV 0 none 0 0, .int .i64 0, .int .i64 61])) W := fun W h => fir_nil (k := 0) (s := 0) (e := 61) hk (.inl (by decide)) h
  have q0 := bt_cell (n := n) hrd (k := 0) (by omega)
  rw [Nat.add_zero] at q0
  have q1 := bt_cell (n := n) hrd (k := 1) (by omega)
  have h0l := bt_lt xs 0
  have h1l := bt_lt xs 1
  have q0' := old_cell q0 (.cells #[.int .u8 0, .slice none 0 0] 35)
  have q1' := old_cell q1 (.cells #[.int .u8 0, .slice none 0 0] 35)
  have hF0 : Fr [] w (w.alloc (.cells #[.int .u8 0, .slice none 0 0] 35)) := (Fr.refl _ _).alloc _
  have hR0 : Res (w.alloc (.cells #[.int .u8 0, .slice none 0 0] 35)) w.heap.size := ⟨heap_alloc_new w _⟩
  have hrD : ∀ W, Fr [] (w.alloc (.cells #[.int .u8 0, .slice none 0 0] 35)) W → Rd W (some ⟨b, o + 2, none⟩) (B8 ((xs.take (bt xs 1)).drop 2)) := fun W hW => by
    have h1 := (hrd.fr (hF0.trans hW) (by simp)).take (bt xs 1)
    rw [B8_take] at h1
    have h2 := h1.drop 2
    rw [B8_drop] at h2
    simpa [add_lit] using h2
  obtain ⟨E, hE⟩ : ∃ E : Option Addr, E = if c = 2 then some ⟨b, o, none⟩ else some ⟨b, o + 2, none⟩ := ⟨_, rfl⟩
  have hif := hE.symm
  have cC := fun W (hW : Fr [] (w.alloc (.cells #[.int .u8 0, .slice none 0 0] 35)) W) => bclone E m (c - 2) ((xs.take (bt xs 1)).drop 2) W hdl (by
    rw [hE]
    split
    · have : (xs.take (bt xs 1)).drop 2 = [] := List.eq_nil_of_length_eq_zero (by omega)
      rw [this]; exact Rd.nil _ _
    · exact hrD W hW) (by omega)
  have cR := fun A5 c5 W (hW : Rd W A5 (B8 ((xs.take (bt xs 1)).drop 2))) => right6_any (bt xs 0) A5 m c5 ((xs.take (bt xs 1)).drop 2) W hdl hW (by omega) h0l
  rw [hr] at cR
  unfold CloneP at cC
  rw [hdl] at cC
  unfold OV at cR
  have e0 : (((bt xs 0 : Nat) : Int) == 1) = false := by rw [beq_eq_false_iff_ne]; omega
  generalize (xs.take (bt xs 1)).drop 2 = D at cC cR hP
  generalize bt xs 0 = v at *
  generalize bt xs 1 = u at *
  have i0 : (0 : Int) < (n : Int) := by omega
  have i1 : (1 : Int) < (n : Int) := by omega
  have i0n : 0 < n := by omega
  have i1n : 1 < n := by omega
  have h2n : ¬ (n : Int) < 2 := by omega
  have h3i : ¬ (u : Int) < 2 := by omega
  have h4i : ¬ (n : Int) < (u : Int) := by omega
  have sl1 : (0 : Int) ≤ 2 ∧ (2 : Int) ≤ (u : Int) ∧ (u : Int) ≤ (c : Int) := by omega
  have sl2 : (2 : Int) ≤ (u : Int) := by omega
  have sl3 : (u : Int) ≤ (c : Int) := by omega
  have sl4 : u - 2 = m := by omega
  have wu : IntKind.i64.wrap (u : Int) = (u : Int) := IntWalk.i64_in _ (by omega)
  have CC := Lib.hid cC
  have CR := Lib.hid cR
  have HP := Lib.hid hP
  have Q0 := Lib.hid q0'
  clear cC cR hP hk hdl hrd hl hrD hm hr q0 q1 hF0 hE
  go_enter Try.func40, Try.ntmps40
  go_wp2_with fail
  have hS0 : Fr [] (w.alloc (.cells #[.int .u8 0, .slice none 0 0] 35)) (w.alloc (.cells #[.int .u8 0, .slice none 0 0] 35)).drew := (Fr.refl _ _).drew
  refine wp_region_held_drew (S := Fr [] (w.alloc (.cells #[.int .u8 0, .slice none 0 0] 35))) (by kernel_rfl) hS0 (fun hS => ?_)
  clear hS0
  refine wpAnyH_take (i := 0) (v := ?_) rfl (by kernel_rfl) (by kernel_rfl) (by kernel_rfl) (fun _ _ _ h => h) (Or.inl ⟨by rfl, ?_⟩) hS ?_
  rotate_left 1
  · intro w hSw; have q0 := Fr.cell hSw Q0.out (by simp); go_simp; with_reducible rfl
  try simp only [Act.put, List.getElem_toArray, List.getElem_cons_zero, List.setIfInBounds_toArray, List.set_cons_zero, List.set_cons_succ]
  refine wpAnyH_take (i := 1) (v := ?_) rfl (by kernel_rfl) (by kernel_rfl) (by kernel_rfl) (fun _ _ _ h => h) (Or.inl ⟨by rfl, ?_⟩) hS ?_
  rotate_left 1
  · intro w hSw; have q0 := Fr.cell hSw Q0.out (by simp); go_simp; with_reducible rfl
  try simp only [Act.put, List.getElem_toArray, List.getElem_cons_succ, List.getElem_cons_zero, List.setIfInBounds_toArray, List.set_cons_zero, List.set_cons_succ]
  refine wpAnyH_take (i := 2) (v := ?_) rfl (by kernel_rfl) (by kernel_rfl) (by kernel_rfl) (fun _ _ _ h => h) (Or.inl ⟨by rfl, ?_⟩) hS ?_
  rotate_left 1
  · intro w hSw; have q0 := Fr.cell hSw Q0.out (by simp); go_simp; with_reducible rfl
  try simp only [Act.put, List.getElem_toArray, List.getElem_cons_succ, List.getElem_cons_zero, List.setIfInBounds_toArray, List.set_cons_zero, List.set_cons_succ]
  refine wpAnyH_take (i := 3) (v := ?_) rfl (by kernel_rfl) (by kernel_rfl) (by kernel_rfl) (fun _ _ _ h => h) (Or.inl ⟨by rfl, ?_⟩) hS ?_
  rotate_left 1
  · intro w hSw; have q0 := Fr.cell hSw Q0.out (by simp); go_simp; with_reducible rfl
  try simp only [Act.put, List.getElem_toArray, List.getElem_cons_succ, List.getElem_cons_zero, List.setIfInBounds_toArray, List.set_cons_zero, List.set_cons_succ]
  refine wpAnyH_take (i := 4) (v := ?_) rfl (by kernel_rfl) (by kernel_rfl) (by kernel_rfl) (fun _ _ _ h => h) (Or.inl ⟨by rfl, ?_⟩) hS ?_
  rotate_left 1
  · intro w hSw; have q0 := Fr.cell hSw Q0.out (by simp); go_simp; with_reducible rfl
  try simp only [Act.put, List.getElem_toArray, List.getElem_cons_succ, List.getElem_cons_zero, List.setIfInBounds_toArray, List.set_cons_zero, List.set_cons_succ]
  refine wpAnyH_take (i := 5) (v := ?_) rfl (by kernel_rfl) (by kernel_rfl) (by kernel_rfl) (fun _ _ _ h => h) (Or.inl ⟨by rfl, ?_⟩) hS ?_
  rotate_left 1
  · intro w hSw; have q0 := Fr.cell hSw Q0.out (by simp); go_simp; with_reducible rfl
  try simp only [Act.put, List.getElem_toArray, List.getElem_cons_succ, List.getElem_cons_zero, List.setIfInBounds_toArray, List.set_cons_zero, List.set_cons_succ]
  refine wpAnyH_ready (rs := [6, 8]) (by kernel_rfl) (by simp) ?_
  refine AllReadyH.cons rfl (fun K hK => ?_) (AllReadyH.cons rfl (fun K hK => ?_) AllReadyH.nil)
  · go_simp
    refine (CC.out _ hS).mono ?_
    rintro e wc ⟨A5, c5, rfl, o5, hF5⟩
    have hl0 := hS.size
    rw [World.size_alloc] at hl0
    have O5 := Lib.hid (own_ext (base' := w.heap.size + 1) o5 (by omega))
    have hlt : ∀ k, Value.ownBlock (.slice A5 m c5) = some k → k < wc.heap.size := fun k hk => (o5.lt k hk).2
    refine hK.out _ _ (hS.trans hF5) (fun hS2 => ?_)
    clear hK K CC hl0
    replace hS := hS2
    clear hS2
    try simp only [Act.put, List.getElem_toArray, List.getElem_cons_succ, List.getElem_cons_zero, List.setIfInBounds_toArray, List.set_cons_zero, List.set_cons_succ]
    refine wpAnyH_take (i := 7) (v := ?_) rfl (by kernel_rfl) (by kernel_rfl) (by kernel_rfl) (fun _ _ _ h => h) (Or.inl ⟨by rfl, ?_⟩) hS ?_
    rotate_left 1
    · intro w hSw; have q0 := Fr.cell hSw Q0.out (by simp); go_simp; with_reducible rfl
    try simp only [Act.put, List.getElem_toArray, List.getElem_cons_succ, List.getElem_cons_zero, List.setIfInBounds_toArray, List.set_cons_zero, List.set_cons_succ]
    refine wpAnyH_ready (rs := [8]) (by kernel_rfl) (by simp) ?_
    refine AllReadyH.cons rfl (fun K hK => ?_) AllReadyH.nil
    go_simp
    have HZ := Lib.hid (heap_alloc_new wc (.cells #[.int .u8 0, .slice none 0 0] 35))
    have HFS := Lib.hid (hS.alloc (.cells #[.int .u8 0, .slice none 0 0] 35))
    have OS := Lib.hid (((Fr.refl [] wc).alloc (.cells #[.int .u8 0, .slice none 0 0] 35)).own O5.out (by simp))
    have hne : ∀ k, Value.ownBlock (.slice A5 m c5) = some k → k ≠ wc.heap.size := fun k hk => by have := hlt k hk; omega
    have hgb : w.heap.size < wc.heap.size := by have := hS.size; rw [World.size_alloc] at this; omega
    refine hK.out _ _ (hS.alloc _) (fun hS2 => ?_)
    clear hK K hS2 O5 hlt
    obtain ⟨wS, hwS⟩ : ∃ wS, wS = wc.alloc (.cells #[.int .u8 0, .slice none 0 0] 35) := ⟨_, rfl⟩
    rw [← hwS] at HZ HFS OS ⊢
    clear hwS
    generalize wc.heap.size = gB at HZ hne hgb ⊢
    try simp only [Act.put, List.getElem_toArray, List.getElem_cons_succ, List.getElem_cons_zero, List.setIfInBounds_toArray, List.set_cons_zero, List.set_cons_succ]
    refine wpAnyH_ready (rs := [9]) (by kernel_rfl) (by simp) ?_
    refine AllReadyH.cons rfl (fun K hK => ?_) AllReadyH.nil
    rw [if_pos (by rfl)]
    refine wp_store_row 35 _ _ rfl (gB) #[.int .u8 v, .slice A5 m c5] rfl rfl _ _ HZ.out (by kernel_rfl) rfl (by simp [Value.oneCell']) ?_
    have hFE : Fr [gB] wS (wS.setRow gB #[.int .u8 v, .slice A5 m c5]) := (Fr.refl _ _).setRow (.inl (by simp)) _
    have hG : (wS.setRow gB #[.int .u8 v, .slice A5 m c5]).heap[gB]? = some (.cells #[.int .u8 v, .slice A5 m c5] 35 (0, 0)) := setRow_heap wS _ _ _ _ _ HZ.out
    have hF05 : Fr [] (w.alloc (.cells #[.int .u8 0, .slice none 0 0] 35)) (wS.setRow gB #[.int .u8 v, .slice A5 m c5]) := HFS.out.trans2 hFE (by first | (simp; done) | (simp; omega))
    have oE := hFE.own OS.out (fun k hk => by have := hne k hk; simp; omega)
    generalize wS.setRow gB #[.int .u8 v, .slice A5 m c5] = wE at hG hF05 oE ⊢
    refine hK.out _ _ hF05 (fun hS => ?_)
    clear hK K HZ HFS OS hne hFE
    try simp only [Act.put, List.getElem_toArray, List.getElem_cons_succ, List.getElem_cons_zero]
    refine wpAnyH_done (by kernel_rfl) ?_ _
    have HG := Lib.hid hG
    have HF5 := Lib.hid hF05
    have OE := Lib.hid oE
    have HR := Lib.hid (hR0.fr hF05)
    clear hG hF05 oE hR0 hS
    go_wp2_with (refine wpList_load_row rfl 35 _ rfl (gB) rfl _ _ _ _ HG.out Try.underlying35 rfl (by kernel_rfl) ?_)
    refine (CR.out A5 c5 _ (Rd.own OE.out)).mono ?_
    rintro e w8 ⟨rfl, hF8⟩
    have hR8 := HR.out.fr hF8
    have hG8 := hF8.blk HG.out (by simp)
    have o8 := hF8.own OE.out (by simp)
    have hF08 := HF5.out.trans hF8
    have HG8 := Lib.hid hG8
    have HR8 := Lib.hid hR8
    have O8 := Lib.hid o8
    have HF08 := Lib.hid hF08
    clear hG8 hR8 o8 hF08 hF8 CR HG HR OE HF5
    go_wp2_with (first | (refine wpList_store_row rfl 35 _ _ rfl (w.heap.size) #[.int .u8 0, .slice none 0 0] rfl rfl _ _ HR8.out.h (by kernel_rfl) rfl (by simp [Value.oneCell']) ?_))
    have hFE : Fr [w.heap.size] w8 (w8.setRow w.heap.size #[.int .u8 0, .slice none 0 0]) := (Fr.refl _ _).setRow (.inl (by simp)) _
    have hRE : (w8.setRow w.heap.size #[.int .u8 0, .slice none 0 0]).heap[w.heap.size]? = some (.cells #[.int .u8 0, .slice none 0 0] 35 (0, 0)) := setRow_heap w8 _ _ _ _ _ HR8.out.h
    have oE := hFE.own O8.out (fun k hk => by have := (O8.out.lt k hk).1; simp; omega)
    have hFw : Fr [] w (w8.setRow w.heap.size #[.int .u8 0, .slice none 0 0]) := (((Fr.refl [] w).alloc (.cells #[.int .u8 0, .slice none 0 0] 35)).trans HF08.out).trans2 hFE (by simp)
    have x0 := obx0 (k := 0) hRE
    have x1 := obx1 (k := 0) hRE
    refine bodyPost_ret (v := .tuple #[OV 0 none 0 0, .int .i64 0, .int .i64 61]) (by simp [results, Try.results40, go_sem, OV, x0, x1]) rfl ?_
    exact HP.out _ hFw
  · go_simp
    have HZ0 : Hid ((((w.alloc (.cells #[.int .u8 0, .slice none 0 0] 35)).alloc (.cells #[.int .u8 0, .slice none 0 0] 35)).drew).heap[w.heap.size + 1]? = some (.cells #[.int .u8 0, .slice none 0 0] 35 (0, 0))) := by
      show ((w.alloc (.cells #[.int .u8 0, .slice none 0 0] 35)).alloc (.cells #[.int .u8 0, .slice none 0 0] 35)).heap[w.heap.size + 1]? = _
      rw [← World.size_alloc w (.cells #[.int .u8 0, .slice none 0 0] 35)]; exact heap_alloc_new _ _
    have hF9 : Fr [] (w.alloc (.cells #[.int .u8 0, .slice none 0 0] 35)) ((w.alloc (.cells #[.int .u8 0, .slice none 0 0] 35)).alloc (.cells #[.int .u8 0, .slice none 0 0] 35)).drew := ((Fr.refl _ _).alloc _).drew
    have hlz : w.heap.size + 1 < ((w.alloc (.cells #[.int .u8 0, .slice none 0 0] 35)).alloc (.cells #[.int .u8 0, .slice none 0 0] 35)).drew.heap.size := by show _ < ((w.alloc (.cells #[.int .u8 0, .slice none 0 0] 35)).alloc (.cells #[.int .u8 0, .slice none 0 0] 35)).heap.size; rw [World.size_alloc, World.size_alloc]; omega
    refine hK.out _ _ hF9 (fun hS2 => ?_)
    clear hK K hS2
    replace hS := hF9
    clear hF9
    generalize ((w.alloc (.cells #[.int .u8 0, .slice none 0 0] 35)).alloc (.cells #[.int .u8 0, .slice none 0 0] 35)).drew = wz at HZ0 hS hlz ⊢
    have hgb : w.heap.size < w.heap.size + 1 := by omega
    try simp only [Act.put, List.getElem_toArray, List.getElem_cons_succ, List.getElem_cons_zero, List.setIfInBounds_toArray, List.set_cons_zero, List.set_cons_succ]
    refine wpAnyH_ready (rs := [6]) (by kernel_rfl) (by simp) ?_
    refine AllReadyH.cons rfl (fun K hK => ?_) AllReadyH.nil
    go_simp
    refine (CC.out _ hS).mono ?_
    rintro e wc ⟨A5, c5, rfl, o5, hF5⟩
    have hl0 := hS.size
    rw [World.size_alloc] at hl0
    have O5 := Lib.hid (own_ext (base' := w.heap.size + 1) o5 (by omega))
    have hne : ∀ k, Value.ownBlock (.slice A5 m c5) = some k → k ≠ w.heap.size + 1 := fun k hk => by have := (o5.lt k hk).1; omega
    have HZ := Lib.hid (hF5.blk HZ0.out (by simp))
    have HFS := Lib.hid (hS.trans hF5)
    have OS := O5
    refine hK.out _ _ (hS.trans hF5) (fun hS2 => ?_)
    clear hK K CC hl0 HZ0 hlz
    replace hS := hS2
    clear hS2
    obtain ⟨wS, hwS⟩ : ∃ wS, wS = wc := ⟨_, rfl⟩
    rw [← hwS] at HZ HFS OS hS ⊢
    clear hwS
    try simp only [Act.put, List.getElem_toArray, List.getElem_cons_succ, List.getElem_cons_zero, List.setIfInBounds_toArray, List.set_cons_zero, List.set_cons_succ]
    refine wpAnyH_take (i := 7) (v := ?_) rfl (by kernel_rfl) (by kernel_rfl) (by kernel_rfl) (fun _ _ _ h => h) (Or.inl ⟨by rfl, ?_⟩) hS ?_
    rotate_left 1
    · intro w hSw; have q0 := Fr.cell hSw Q0.out (by simp); go_simp; with_reducible rfl
    try simp only [Act.put, List.getElem_toArray, List.getElem_cons_succ, List.getElem_cons_zero, List.setIfInBounds_toArray, List.set_cons_zero, List.set_cons_succ]
    refine wpAnyH_ready (rs := [9]) (by kernel_rfl) (by simp) ?_
    refine AllReadyH.cons rfl (fun K hK => ?_) AllReadyH.nil
    rw [if_pos (by rfl)]
    refine wp_store_row 35 _ _ rfl ((w.heap.size + 1)) #[.int .u8 v, .slice A5 m c5] rfl rfl _ _ HZ.out (by kernel_rfl) rfl (by simp [Value.oneCell']) ?_
    have hFE : Fr [(w.heap.size + 1)] wS (wS.setRow (w.heap.size + 1) #[.int .u8 v, .slice A5 m c5]) := (Fr.refl _ _).setRow (.inl (by simp)) _
    have hG : (wS.setRow (w.heap.size + 1) #[.int .u8 v, .slice A5 m c5]).heap[(w.heap.size + 1)]? = some (.cells #[.int .u8 v, .slice A5 m c5] 35 (0, 0)) := setRow_heap wS _ _ _ _ _ HZ.out
    have hF05 : Fr [] (w.alloc (.cells #[.int .u8 0, .slice none 0 0] 35)) (wS.setRow (w.heap.size + 1) #[.int .u8 v, .slice A5 m c5]) := HFS.out.trans2 hFE (by first | (simp; done) | (simp; omega))
    have oE := hFE.own OS.out (fun k hk => by have := hne k hk; simp; omega)
    generalize wS.setRow (w.heap.size + 1) #[.int .u8 v, .slice A5 m c5] = wE at hG hF05 oE ⊢
    refine hK.out _ _ hF05 (fun hS => ?_)
    clear hK K HZ HFS OS hne hFE
    try simp only [Act.put, List.getElem_toArray, List.getElem_cons_succ, List.getElem_cons_zero]
    refine wpAnyH_done (by kernel_rfl) ?_ _
    have HG := Lib.hid hG
    have HF5 := Lib.hid hF05
    have OE := Lib.hid oE
    have HR := Lib.hid (hR0.fr hF05)
    clear hG hF05 oE hR0 hS
    go_wp2_with (refine wpList_load_row rfl 35 _ rfl ((w.heap.size + 1)) rfl _ _ _ _ HG.out Try.underlying35 rfl (by kernel_rfl) ?_)
    refine (CR.out A5 c5 _ (Rd.own OE.out)).mono ?_
    rintro e w8 ⟨rfl, hF8⟩
    have hR8 := HR.out.fr hF8
    have hG8 := hF8.blk HG.out (by simp)
    have o8 := hF8.own OE.out (by simp)
    have hF08 := HF5.out.trans hF8
    have HG8 := Lib.hid hG8
    have HR8 := Lib.hid hR8
    have O8 := Lib.hid o8
    have HF08 := Lib.hid hF08
    clear hG8 hR8 o8 hF08 hF8 CR HG HR OE HF5
    go_wp2_with (first | (refine wpList_store_row rfl 35 _ _ rfl (w.heap.size) #[.int .u8 0, .slice none 0 0] rfl rfl _ _ HR8.out.h (by kernel_rfl) rfl (by simp [Value.oneCell']) ?_))
    have hFE : Fr [w.heap.size] w8 (w8.setRow w.heap.size #[.int .u8 0, .slice none 0 0]) := (Fr.refl _ _).setRow (.inl (by simp)) _
    have hRE : (w8.setRow w.heap.size #[.int .u8 0, .slice none 0 0]).heap[w.heap.size]? = some (.cells #[.int .u8 0, .slice none 0 0] 35 (0, 0)) := setRow_heap w8 _ _ _ _ _ HR8.out.h
    have oE := hFE.own O8.out (fun k hk => by have := (O8.out.lt k hk).1; simp; omega)
    have hFw : Fr [] w (w8.setRow w.heap.size #[.int .u8 0, .slice none 0 0]) := (((Fr.refl [] w).alloc (.cells #[.int .u8 0, .slice none 0 0] 35)).trans HF08.out).trans2 hFE (by simp)
    have x0 := obx0 (k := 0) hRE
    have x1 := obx1 (k := 0) hRE
    refine bodyPost_ret (v := .tuple #[OV 0 none 0 0, .int .i64 0, .int .i64 61]) (by simp [results, Try.results40, go_sem, OV, x0, x1]) rfl ?_
    exact HP.out _ hFw
theorem first_any (b o n c : Nat) (xs : List UInt8) (w : World) (hl : xs.length = n) (hrd : Rd w (some ⟨b, o, none⟩) (B8 xs)) (hn1 : 1 ≤ n) (hnc : n ≤ c) (hn : n ≤ 140737488351232) :
    Calls Try.prog 40 #[.slice (some ⟨b, o, none⟩) n c] w (FirP xs w) := by
  by_cases h : bt xs 0 = 1 ∨ n < 2 ∨ bt xs 1 < 2 ∨ n < bt xs 1
  · exact first_early b o n c xs w hl hrd hn1 hn h
  · cases hr : rightO (bt xs 0) ((xs.take (bt xs 1)).drop 2) with
    | true => exact first_go b o n c xs w hl hrd hnc hn (by omega) (by omega) (by omega) hr
    | false => exact first_bad b o n c xs w hl hrd hnc hn (by omega) (by omega) (by omega) hr
end Go.Proofs.Ytekhjpiopbkoaaa
