/- Find. -/
import Derived.Test.YtekhjpiopbkoaaaOro
import Derived.Deep.RegionHeld
namespace Go.Proofs.Ytekhjpiopbkoaaa
open Go.RowKit
set_option linter.unusedVariables false
set_option maxRecDepth 100000

/-- What is found: an option of this kind with a copy of the data of the first of the list. -/
def FndP (l : List Opt) (kd : Nat) (w : World) (e : Ending) (w' : World) : Prop :=
  Fr [] w w' ∧ ((idxI l (fndB kd) = -1 ∧ e = .returned (.tuple #[OV 0 none 0 0, .bool false])) ∨
    ∃ (i : Nat) (o : Opt) (A : Option Addr) (c : Nat), idxI l (fndB kd) = (i : Int) ∧ l[i]? = some o ∧ e = .returned (.tuple #[OV kd A o.d.length c, .bool true]) ∧ w'.ownsRow w.heap.size 5 1 (.slice A o.d.length c) o.d.length (B8 o.d))
set_option maxHeartbeats 1000000 in
theorem find_no (A : Option Addr) (n c : Nat) (l : List Opt) (kd : Nat) (w : World) (hl : l.length = n) (hrd : RdO w A l) (hn : n ≤ 140737488351232) (h : idxI l (fndB kd) = -1) :
    Calls Try.prog 18 #[.slice A n c, .int .u8 kd] w (FndP l kd w) := by
  have hF : Fr [] w ((w.alloc (.cells #[.int .u8 kd] 5)).alloc (.cells #[.int .u8 0, .slice none 0 0] 35)) := ((Fr.refl _ _).alloc _).alloc _
  have hk0 : (w.alloc (.cells #[.int .u8 kd] 5)).heap[w.heap.size]? = some (.cells #[.int .u8 kd] 5 (0, 0)) := heap_alloc_new w _
  have hk1 := ((Fr.refl [] _).alloc (.cells #[.int .u8 0, .slice none 0 0] 35)).blk hk0 (by simp)
  have hb1 : ((w.alloc (.cells #[.int .u8 kd] 5)).alloc (.cells #[.int .u8 0, .slice none 0 0] 35)).heap[w.heap.size + 1]? = some (.cells #[.int .u8 0, .slice none 0 0] 35 (0, 0)) := by
    rw [← World.size_alloc w (.cells #[.int .u8 kd] 5)]; exact heap_alloc_new _ _
  have cI := indexF kd w.heap.size A n c l _ hl (hrd.fr hF) hn (by simp [World.cell?, hk1])
  rw [h] at cI
  have CI := Lib.hid cI
  have HF := Lib.hid hF
  have HB := Lib.hid hb1
  have HQ := Lib.hid (show ∀ w', Fr [] w w' → FndP l kd w (.returned (.tuple #[OV 0 none 0 0, .bool false])) w' from fun w' hw => ⟨hw, .inl ⟨h, rfl⟩⟩)
  clear cI hF hk0 hk1 hb1 hl hrd h
  generalize FndP l kd w = Q at HQ ⊢
  go_enter Try.func18, Try.ntmps18
  go_wp2_with fail
  refine CI.out.mono ?_
  rintro e w5 ⟨rfl, hF5⟩
  have HB5 := Lib.hid (hF5.blk HB.out (by simp))
  have HF5 := Lib.hid (HF.out.trans hF5)
  clear hF5 CI HB HF
  go_wp2_with (refine wpList_store_row rfl 35 _ _ rfl (w.heap.size + 1) #[.int .u8 0, .slice none 0 0] rfl rfl _ _ HB5.out (by kernel_rfl) rfl (by simp [Value.oneCell']) ?_)
  have hRE : (w5.setRow (w.heap.size + 1) #[.int .u8 0, .slice none 0 0]).heap[w.heap.size + 1]? = some (.cells #[.int .u8 0, .slice none 0 0] 35 (0, 0)) := setRow_heap w5 _ _ _ _ _ HB5.out
  have hFw : Fr [] w (w5.setRow (w.heap.size + 1) #[.int .u8 0, .slice none 0 0]) := HF5.out.trans2 ((Fr.refl [w.heap.size + 1] _).setRow (.inl (by simp)) _) (by simp)
  have x0 := obx0 (k := 0) hRE
  have x1 := obx1 (k := 0) hRE
  refine bodyPost_ret (v := .tuple #[OV 0 none 0 0, .bool false]) (by simp [results, Try.results18, go_sem, OV, x0, x1]) rfl ?_
  exact HQ.out _ hFw
/-- Between two operations: only the result's box may have turned. -/
def FnS (w5 : World) (g : Nat) (W : World) : Prop := Fr [g] w5 W ∧ ∃ x y, W.heap[g]? = some (.cells #[x, y] 35 (0, 0))
theorem rd_past {w w5 W : World} {A : Option Addr} {xs : List Value} {S : List Nat} (h : Rd w A xs) (h5 : Fr [] w w5) (hF : Fr S w5 W) (hS : ∀ s ∈ S, w.heap.size ≤ s) : Rd W A xs := fun j u hu => by
  obtain ⟨ad, e, hc⟩ := h j u hu
  have hb := World.block_lt_of_cell? w _ hc
  exact ⟨ad, e, hF.cell (h5.cell hc (by simp)) (fun hm => by have := hS _ hm; omega)⟩
set_option maxHeartbeats 2000000 in
theorem find_go (A : Option Addr) (n c : Nat) (l : List Opt) (kd : Nat) (w : World) (hl : l.length = n) (hrd : RdO w A l) (hn : n ≤ 140737488351232) (i : Nat) (o : Opt) (h : idxI l (fndB kd) = (i : Int)) (ho : l[i]? = some o) :
    Calls Try.prog 18 #[.slice A n c, .int .u8 kd] w (FndP l kd w) := by
  have hin : i < n := by rw [← hl]; exact (List.getElem?_eq_some_iff.1 ho).1
  obtain ⟨b, off, rfl, h1, h2, h3⟩ := hrd i o ho
  have hF : Fr [] w ((w.alloc (.cells #[.int .u8 kd] 5)).alloc (.cells #[.int .u8 0, .slice none 0 0] 35)) := ((Fr.refl _ _).alloc _).alloc _
  have hk0 : (w.alloc (.cells #[.int .u8 kd] 5)).heap[w.heap.size]? = some (.cells #[.int .u8 kd] 5 (0, 0)) := heap_alloc_new w _
  have hk1 := ((Fr.refl [] _).alloc (.cells #[.int .u8 0, .slice none 0 0] 35)).blk hk0 (by simp)
  have hb1 : ((w.alloc (.cells #[.int .u8 kd] 5)).alloc (.cells #[.int .u8 0, .slice none 0 0] 35)).heap[w.heap.size + 1]? = some (.cells #[.int .u8 0, .slice none 0 0] 35 (0, 0)) := by
    rw [← World.size_alloc w (.cells #[.int .u8 kd] 5)]; exact heap_alloc_new _ _
  have hsz0 : ((w.alloc (.cells #[.int .u8 kd] 5)).alloc (.cells #[.int .u8 0, .slice none 0 0] 35)).heap.size = w.heap.size + 2 := by simp
  have hkc : ((w.alloc (.cells #[.int .u8 kd] 5)).alloc (.cells #[.int .u8 0, .slice none 0 0] 35)).cell? ⟨w.heap.size, 0, none⟩ = some (.int .u8 kd) := by simp [World.cell?, hk1]
  have cI := indexF kd w.heap.size (some ⟨b, off, none⟩) n c l _ hl (hrd.fr hF) hn hkc
  rw [h] at cI
  have CI := Lib.hid cI
  have HF := Lib.hid hF
  have HB := Lib.hid hb1
  have H3 := Lib.hid h3
  have HSZ := Lib.hid hsz0
  have HQ := Lib.hid (show ∀ w' A5 c5, Fr [] w w' → w'.ownsRow w.heap.size 5 1 (.slice A5 o.d.length c5) o.d.length (B8 o.d) → FndP l kd w (.returned (.tuple #[OV kd A5 o.d.length c5, .bool true])) w' from fun w' A5 c5 hw hown => ⟨hw, .inr ⟨i, o, A5, c5, h, ho, rfl, hown⟩⟩)
  have HKC := Lib.hid hkc
  have HC2 := Lib.hid h2
  have hbl : b < w.heap.size := World.block_lt_of_cell? w _ h2
  have hii : (0 : Int) ≤ (i : Int) ∧ (i : Int) < (n : Int) := by omega
  have hi0 : ¬ (i : Int) < 0 := by omega
  clear cI hF hk0 hk1 hb1 hl hrd h h1 h2 h3 ho hkc hsz0
  generalize FndP l kd w = Q at HQ ⊢
  go_enter Try.func18, Try.ntmps18
  go_wp2_with fail
  refine CI.out.mono ?_
  rintro e w5 ⟨rfl, hF5⟩
  have HB5 := Lib.hid (hF5.blk HB.out (by simp))
  have HK := Lib.hid (hF5.cell HKC.out (by simp))
  have HF5 := Lib.hid (HF.out.trans hF5)
  have HC := Lib.hid (HF5.out.cell HC2.out (by simp))
  have hs5 := hF5.size
  rw [HSZ.out] at hs5
  clear hF5 CI HB HF HKC HC2 HSZ
  go_wp2_with fail
  have hS0 : FnS w5 (w.heap.size + 1) w5.drew := ⟨(Fr.refl _ _).drew, _, _, HB5.out⟩
  refine wp_region_held_drew (S := FnS w5 (w.heap.size + 1)) (by kernel_rfl) hS0 (fun hS => ?_)
  clear hS0
  refine wpAnyH_take (i := 0) (v := ?_) rfl (by kernel_rfl) (by kernel_rfl) (by kernel_rfl) (fun _ _ _ h => h) (Or.inl ⟨by rfl, ?_⟩) hS ?_
  rotate_left 1
  · intro w hSw; have q0 := Fr.cell hSw.1 HK.out (by simp); have q1 := Fr.cell hSw.1 HC.out (by simp; omega); go_simp; with_reducible rfl
  try simp only [Act.put, List.getElem_toArray, List.getElem_cons_zero, List.setIfInBounds_toArray, List.set_cons_zero, List.set_cons_succ]
  refine wpAnyH_take (i := 1) (v := ?_) rfl (by kernel_rfl) (by kernel_rfl) (by kernel_rfl) (fun _ _ _ h => h) (Or.inl ⟨by rfl, ?_⟩) hS ?_
  rotate_left 1
  · intro w hSw; have q0 := Fr.cell hSw.1 HK.out (by simp); have q1 := Fr.cell hSw.1 HC.out (by simp; omega); go_simp; with_reducible rfl
  try simp only [Act.put, List.getElem_toArray, List.getElem_cons_succ, List.getElem_cons_zero, List.setIfInBounds_toArray, List.set_cons_zero, List.set_cons_succ]
  refine wpAnyH_take (i := 2) (v := ?_) rfl (by kernel_rfl) (by kernel_rfl) (by kernel_rfl) (fun _ _ _ h => h) (Or.inl ⟨by rfl, ?_⟩) hS ?_
  rotate_left 1
  · intro w hSw; have q0 := Fr.cell hSw.1 HK.out (by simp); have q1 := Fr.cell hSw.1 HC.out (by simp; omega); go_simp; with_reducible rfl
  try simp only [Act.put, List.getElem_toArray, List.getElem_cons_succ, List.getElem_cons_zero, List.setIfInBounds_toArray, List.set_cons_zero, List.set_cons_succ]
  refine wpAnyH_take (i := 3) (v := ?_) rfl (by kernel_rfl) (by kernel_rfl) (by kernel_rfl) (fun _ _ _ h => h) (Or.inl ⟨by rfl, ?_⟩) hS ?_
  rotate_left 1
  · intro w hSw; have q0 := Fr.cell hSw.1 HK.out (by simp); have q1 := Fr.cell hSw.1 HC.out (by simp; omega); go_simp; with_reducible rfl
  try simp only [Act.put, List.getElem_toArray, List.getElem_cons_succ, List.getElem_cons_zero, List.setIfInBounds_toArray, List.set_cons_zero, List.set_cons_succ]
  refine wpAnyH_take (i := 4) (v := ?_) rfl (by kernel_rfl) (by kernel_rfl) (by kernel_rfl) (fun _ _ _ h => h) (Or.inl ⟨by rfl, ?_⟩) hS ?_
  rotate_left 1
  · intro w hSw; have q0 := Fr.cell hSw.1 HK.out (by simp); have q1 := Fr.cell hSw.1 HC.out (by simp; omega); go_simp; with_reducible rfl
  try simp only [Act.put, List.getElem_toArray, List.getElem_cons_succ, List.getElem_cons_zero, List.setIfInBounds_toArray, List.set_cons_zero, List.set_cons_succ]
  refine wpAnyH_take (i := 5) (v := ?_) rfl (by kernel_rfl) (by kernel_rfl) (by kernel_rfl) (fun _ _ _ h => h) (Or.inl ⟨by rfl, ?_⟩) hS ?_
  rotate_left 1
  · intro w hSw; have q0 := Fr.cell hSw.1 HK.out (by simp); have q1 := Fr.cell hSw.1 HC.out (by simp; omega); go_simp; with_reducible rfl
  try simp only [Act.put, List.getElem_toArray, List.getElem_cons_succ, List.getElem_cons_zero, List.setIfInBounds_toArray, List.set_cons_zero, List.set_cons_succ]
  refine wpAnyH_ready (rs := [6]) (by kernel_rfl) (by simp) ?_
  refine AllReadyH.cons rfl (fun K hK => ?_) AllReadyH.nil
  go_simp
  obtain ⟨hS1, x, y, hxy⟩ := hS
  refine (bclone o.A o.n o.c o.d _ H3.out.len (rd_past H3.out.rd HF5.out hS1 (by simp)) H3.out.n).mono ?_
  rintro e wc ⟨A5, c5, rfl, o5, hF6⟩
  have hsl := hS1.size
  have O5 := Lib.hid (own_ext (base' := w.heap.size + 2) o5 (by omega))
  have HXY := Lib.hid (hF6.blk hxy (by simp))
  have HS6 := Lib.hid (hS1.trans hF6.nil)
  refine hK.out _ _ ⟨hS1.trans hF6.nil, x, y, hF6.blk hxy (by simp)⟩ (fun hS2 => ?_)
  clear hK K hS1 hxy o5 hF6 hsl
  replace hS := hS2
  clear hS2
  try simp only [Act.put, List.getElem_toArray, List.getElem_cons_succ, List.getElem_cons_zero, List.setIfInBounds_toArray, List.set_cons_zero, List.set_cons_succ]
  refine wpAnyH_take (i := 7) (v := ?_) rfl (by kernel_rfl) (by kernel_rfl) (by kernel_rfl) (fun _ _ _ h => h) (Or.inl ⟨by rfl, ?_⟩) hS ?_
  rotate_left 1
  · intro w hSw; go_simp; with_reducible rfl
  try simp only [Act.put, List.getElem_toArray, List.getElem_cons_succ, List.getElem_cons_zero, List.setIfInBounds_toArray, List.set_cons_zero, List.set_cons_succ]
  refine wpAnyH_ready (rs := [8]) (by kernel_rfl) (by simp) ?_
  refine AllReadyH.cons rfl (fun K hK => ?_) AllReadyH.nil
  rw [if_pos (by rfl)]
  refine wp_store_row 35 _ _ rfl (w.heap.size + 1) #[.int .u8 kd, .slice A5 o.d.length c5] rfl rfl _ _ HXY.out (by kernel_rfl) rfl (by simp [Value.oneCell']) ?_
  have hFE : Fr [w.heap.size + 1] wc (wc.setRow (w.heap.size + 1) #[.int .u8 kd, .slice A5 o.d.length c5]) := (Fr.refl _ _).setRow (.inl (by simp)) _
  have hG : (wc.setRow (w.heap.size + 1) #[.int .u8 kd, .slice A5 o.d.length c5]).heap[w.heap.size + 1]? = some (.cells #[.int .u8 kd, .slice A5 o.d.length c5] 35 (0, 0)) := setRow_heap wc _ _ _ _ _ HXY.out
  have oE := hFE.own O5.out (fun k hk => by have := (O5.out.lt k hk).1; simp; omega)
  have hFw : Fr [] w (wc.setRow (w.heap.size + 1) #[.int .u8 kd, .slice A5 o.d.length c5]) := HF5.out.trans2 (HS6.out.trans hFE) (by simp)
  have hSE : FnS w5 (w.heap.size + 1) (wc.setRow (w.heap.size + 1) #[.int .u8 kd, .slice A5 o.d.length c5]) := ⟨HS6.out.trans hFE, _, _, hG⟩
  generalize wc.setRow (w.heap.size + 1) #[.int .u8 kd, .slice A5 o.d.length c5] = wE at hG oE hFw hSE ⊢
  refine hK.out _ _ hSE (fun hS => ?_)
  clear hK K hFE HXY HS6
  try simp only [Act.put, List.getElem_toArray, List.getElem_cons_succ, List.getElem_cons_zero]
  refine wpAnyH_take (i := 9) (v := ?_) rfl (by kernel_rfl) (by kernel_rfl) (by kernel_rfl) (fun _ _ _ h => h) (Or.inl ⟨by rfl, ?_⟩) hS ?_
  rotate_left 1
  · intro w hSw; go_simp; with_reducible rfl
  try simp only [Act.put, List.getElem_toArray, List.getElem_cons_succ, List.getElem_cons_zero, List.setIfInBounds_toArray, List.set_cons_zero, List.set_cons_succ]
  refine wpAnyH_done (by kernel_rfl) ?_ _
  have x0 := obx0 hG
  have x1 := obx1 hG
  have HO := Lib.hid oE
  have HFw := Lib.hid hFw
  clear hS hSE oE hFw hG
  go_wp2_with fail
  refine bodyPost_ret (v := .tuple #[OV kd A5 o.d.length c5, .bool true]) (by simp [results, Try.results18, go_sem, OV, x0, x1]) rfl ?_
  exact HQ.out _ A5 c5 HFw.out (own_ext HO.out (by omega))
theorem idx_cases6 (l : List Opt) (p : Opt → Bool) : idxI l p = -1 ∨ ∃ (i : Nat) (o : Opt), idxI l p = (i : Int) ∧ l[i]? = some o := by
  unfold idxI
  cases h : l.findIdx? p with
  | none => exact .inl rfl
  | some i =>
    rw [List.findIdx?_eq_some_iff_getElem] at h
    obtain ⟨hi, _⟩ := h
    exact .inr ⟨i, l[i], rfl, List.getElem?_eq_getElem hi⟩
theorem find_any (A : Option Addr) (n c : Nat) (l : List Opt) (kd : Nat) (w : World) (hl : l.length = n) (hrd : RdO w A l) (hn : n ≤ 140737488351232) :
    Calls Try.prog 18 #[.slice A n c, .int .u8 kd] w (FndP l kd w) := by
  rcases idx_cases6 l (fndB kd) with h | ⟨i, o, h, ho⟩
  · exact find_no A n c l kd w hl hrd hn h
  · exact find_go A n c l kd w hl hrd hn i o h ho
end Go.Proofs.Ytekhjpiopbkoaaa
