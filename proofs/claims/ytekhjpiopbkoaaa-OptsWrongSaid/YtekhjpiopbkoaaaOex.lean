/- group; excluder and its closure; bytes.Clone. -/
import Derived.Test.YtekhjpiopbkoaaaOrt
import Derived.Test.YtekhjpiopbkoaaaCl
namespace Go.Proofs.Ytekhjpiopbkoaaa
open Go.RowKit
set_option linter.unusedVariables false
set_option maxRecDepth 100000

/-- bytes.Clone. -/
def CloneP (bs : List UInt8) (w : World) (e : Ending) (w' : World) : Prop := ∃ (A : Option Addr) (c : Nat), e = .returned (.slice A bs.length c) ∧ w'.ownsRow w.heap.size 5 1 (.slice A bs.length c) bs.length (B8 bs) ∧ Fr [] w w'
set_option maxHeartbeats 400000 in
theorem bclone (A : Option Addr) (n c : Nat) (bs : List UInt8) (w : World) (hl : bs.length = n) (hrd : Rd w A (B8 bs)) (hn : n ≤ 140737488351232) :
    Calls Try.prog 30 #[.slice A n c] w (CloneP bs w) := by
  cases A with
  | none =>
    have he := Lib.run_eql_slice_nil (P := Try.prog) w 27 5 none n c 0 0 Try.underlying27
    obtain rfl := nil_of_rd hrd
    clear hl hrd
    go_enter Try.func30, Try.ntmps30
    go_wp2
    go_ret
    exact ⟨none, 0, rfl, World.ownsRow_nil _ _ _ _, Fr.refl _ _⟩
  | some a =>
    have he := Lib.run_eql_slice_nil (P := Try.prog) w 27 5 (some a) n c 0 0 Try.underlying27
    have hF : Fr [] w (w.alloc (.cells #[] 5)) := (Fr.refl _ _).alloc _
    obtain ⟨v', w', hr, ho, hg, _⟩ := app_run el8 (w.alloc (.cells #[] 5)) w.heap.size 27 (.slice (some ⟨w.heap.size, 0, none⟩) 0 0) 0 [] (World.ownsRow_lit w #[] 0 (Nat.le_refl _) (Nat.zero_le _) rfl)
      (some a) n c (B8 bs) (by rw [B8_length]; omega) (hrd.fr hF (by simp)) (B8_one bs) (by simp) (by unfold maxLen; omega) (by omega) (by simp)
    have hfr : Fr [] w w' := hF.trans2 (fr_grown hg) (by simp [Value.ownBlock])
    have ho' : w'.ownsRow w.heap.size 5 1 v' n (B8 bs) := by simpa using ho
    obtain ⟨A', c', rfl, _, _, _⟩ := own_slice ho'
    subst hl
    have HO := Lib.hid ho'
    clear ho ho' hg hF hrd
    go_enter Try.func30, Try.ntmps30
    go_wp2_with (at_builtin; refine wpList_app rfl _ _ _ rfl hr rfl rfl ?_)
    go_ret
    exact ⟨A', c', rfl, HO.out, hfr⟩
def grp (k : Nat) : Nat := if k = 7 ∨ k = 68 then k else if k = 131 ∨ k = 137 then 131 else 0
theorem group_7 (k : Nat) (w : World) (hk : k = 7) : Calls Try.prog 38 #[.int .u8 k] w fun e w' => e = .returned (.int .u8 k) ∧ w = w' := by
  have e7 : ((k : Int) == 7) = true := by rw [hk]; rfl
  have e68 : ((k : Int) == 68) = false := by rw [hk]; rfl
  have e131 : ((k : Int) == 131) = false := by rw [hk]; rfl
  have e137 : ((k : Int) == 137) = false := by rw [hk]; rfl
  clear hk
  go_enter Try.func38, Try.ntmps38
  go_wp2
  go_ret
  exact ⟨rfl, rfl⟩
theorem group_68 (k : Nat) (w : World) (hk : k = 68) : Calls Try.prog 38 #[.int .u8 k] w fun e w' => e = .returned (.int .u8 k) ∧ w = w' := by
  have e7 : ((k : Int) == 7) = false := by rw [hk]; rfl
  have e68 : ((k : Int) == 68) = true := by rw [hk]; rfl
  have e131 : ((k : Int) == 131) = false := by rw [hk]; rfl
  have e137 : ((k : Int) == 137) = false := by rw [hk]; rfl
  clear hk
  go_enter Try.func38, Try.ntmps38
  go_wp2
  go_ret
  exact ⟨rfl, rfl⟩
theorem group_131 (k : Nat) (w : World) (hk : k = 131) : Calls Try.prog 38 #[.int .u8 k] w fun e w' => e = .returned (.int .u8 131) ∧ w = w' := by
  have e7 : ((k : Int) == 7) = false := by rw [hk]; rfl
  have e68 : ((k : Int) == 68) = false := by rw [hk]; rfl
  have e131 : ((k : Int) == 131) = true := by rw [hk]; rfl
  have e137 : ((k : Int) == 137) = false := by rw [hk]; rfl
  clear hk
  go_enter Try.func38, Try.ntmps38
  go_wp2
  go_ret
  exact ⟨rfl, rfl⟩
theorem group_137 (k : Nat) (w : World) (hk : k = 137) : Calls Try.prog 38 #[.int .u8 k] w fun e w' => e = .returned (.int .u8 131) ∧ w = w' := by
  have e7 : ((k : Int) == 7) = false := by rw [hk]; rfl
  have e68 : ((k : Int) == 68) = false := by rw [hk]; rfl
  have e131 : ((k : Int) == 131) = false := by rw [hk]; rfl
  have e137 : ((k : Int) == 137) = true := by rw [hk]; rfl
  clear hk
  go_enter Try.func38, Try.ntmps38
  go_wp2
  go_ret
  exact ⟨rfl, rfl⟩
theorem group_0 (k : Nat) (w : World) (hk : k ≠ 7 ∧ k ≠ 68 ∧ k ≠ 131 ∧ k ≠ 137) : Calls Try.prog 38 #[.int .u8 k] w fun e w' => e = .returned (.int .u8 0) ∧ w = w' := by
  have e7 : ((k : Int) == 7) = false := by rw [beq_eq_false_iff_ne]; omega
  have e68 : ((k : Int) == 68) = false := by rw [beq_eq_false_iff_ne]; omega
  have e131 : ((k : Int) == 131) = false := by rw [beq_eq_false_iff_ne]; omega
  have e137 : ((k : Int) == 137) = false := by rw [beq_eq_false_iff_ne]; omega
  clear hk
  go_enter Try.func38, Try.ntmps38
  go_wp2
  go_ret
  exact ⟨rfl, rfl⟩
theorem group_any (k : Nat) (w : World) : Calls Try.prog 38 #[.int .u8 k] w fun e w' => e = .returned (.int .u8 (grp k : Nat)) ∧ w = w' := by
  unfold grp
  split
  · rename_i h
    rcases h with h | h
    · exact group_7 k w h
    · exact group_68 k w h
  split
  · rename_i h
    rcases h with h | h
    · exact group_131 k w h
    · exact group_137 k w h
  · exact group_0 k w (by omega)

/-- What is taken: a map to true of some groups, in the closure's box. -/
def tkE (gs : List Nat) : Array MapEntry := (gs.zipIdx.map fun (x : Nat × Nat) => (⟨.int .u8 (x.1 : Nat), .bool true, x.2⟩ : MapEntry)).toArray
theorem tkE_snoc (gs : List Nat) (g : Nat) : tkE (gs ++ [g]) = (tkE gs).push ⟨.int .u8 (g : Nat), .bool true, gs.length⟩ := by
  simp [tkE, List.zipIdx_append]
theorem find_tk (g : Nat) : ∀ (gs : List Nat) (o s : Nat), Instr.findNow (.int .u8) (.int .u8 (g : Nat)) ((gs.zipIdx o).map fun (x : Nat × Nat) => (⟨.int .u8 (x.1 : Nat), .bool true, x.2⟩ : MapEntry)) s = if g ∈ gs then some (some (s + gs.idxOf g, .bool true)) else some none
  | [], o, s => by simp [Instr.findNow]
  | x :: gs, o, s => by
    rw [List.zipIdx_cons, List.map_cons]
    unfold Instr.findNow
    simp only [Instr.sameNow, if_true]
    by_cases h : g = x
    · subst h
      simp
    · have e : ((g : Int) == (x : Int)) = false := by rw [beq_eq_false_iff_ne]; omega
      rw [e]
      simp only
      rw [find_tk g gs (o + 1) (s + 1)]
      have h2 : ¬ x = g := fun e => h e.symm
      by_cases hm : g ∈ gs
      · have hb : (x == g) = false := by simpa using h2
        rw [if_pos hm, if_pos (List.mem_cons_of_mem _ hm), List.idxOf_cons, hb]
        simp only [cond_false]
        congr 3
        omega
      · rw [if_neg hm, if_neg (by simp [h, hm])]
/-- The closure's two blocks: the map, and the box that holds it. -/
structure Exc (w : World) (bm bx : Nat) (gs : List Nat) : Prop where
  m : w.heap[bm]? = some (.map (tkE gs) gs.length)
  x : w.heap[bx]? = some (.cells #[.map (some bm)] 75 (0, 0))
theorem Exc.fr {w w' : World} {bm bx : Nat} {gs : List Nat} {S : List Nat} (h : Exc w bm bx gs) (hF : Fr S w w') (h1 : bm ∉ S) (h2 : bx ∉ S) : Exc w' bm bx gs := ⟨hF.blk h.m h1, hF.blk h.x h2⟩
def ExcP (w : World) (e : Ending) (w' : World) : Prop := e = .returned (.func (.func 37) #[] #[.pointer (some ⟨w.heap.size + 1, 0, none⟩)]) ∧ Exc w' w.heap.size (w.heap.size + 1) [] ∧ Fr [] w w'
set_option maxHeartbeats 400000 in
theorem excluder_any (w : World) : Calls Try.prog 24 #[] w (ExcP w) := by
  have hmk := @run_makeMap Try.prog
  have hb0 : (w.alloc (.map #[] 0)).heap[w.heap.size]? = some (.map #[] 0) := heap_alloc_new w _
  have hF0 : Fr [] w (w.alloc (.map #[] 0)) := (Fr.refl _ _).alloc _
  have hb1 : ((w.alloc (.map #[] 0)).alloc (.cells #[.map (some w.heap.size)] 75)).heap[w.heap.size]? = some (.map #[] 0) := ((Fr.refl [] _).alloc _).blk hb0 (by simp)
  have hb2 : ((w.alloc (.map #[] 0)).alloc (.cells #[.map (some w.heap.size)] 75)).heap[w.heap.size + 1]? = some (.cells #[.map (some w.heap.size)] 75 (0, 0)) := by
    rw [← World.size_alloc w (.map #[] 0)]; exact heap_alloc_new _ _
  have HE := Lib.hid (show Exc ((w.alloc (.map #[] 0)).alloc (.cells #[.map (some w.heap.size)] 75)) w.heap.size (w.heap.size + 1) [] from ⟨hb1, hb2⟩)
  have HF := Lib.hid (hF0.alloc (.cells #[.map (some w.heap.size)] 75))
  clear hb0 hF0 hb1 hb2
  go_enter Try.func24, Try.ntmps24
  go_wp2
  go_ret
  exact ⟨rfl, HE.out, HF.out⟩
set_option maxHeartbeats 400000 in
theorem exc_none (k : Nat) (bm bx : Nat) (gs : List Nat) (w : World) (h0 : grp k = 0) :
    Calls Try.prog 37 #[.int .u8 k, .pointer (some ⟨bx, 0, none⟩)] w fun e w' => e = .returned (.bool false) ∧ w = w' := by
  have cG := group_any k w
  rw [h0] at cG
  have CG := Lib.hid cG
  clear cG h0
  go_enter Try.func37, Try.ntmps37
  go_wp2_with fail
  refine CG.out.mono ?_
  rintro e w' ⟨rfl, rfl⟩
  go_wp2
  go_ret
  exact ⟨rfl, rfl⟩
def ExcQ (w : World) (bm bx : Nat) (gs : List Nat) (b : Bool) (e : Ending) (w' : World) : Prop := e = .returned (.bool b) ∧ Exc w' bm bx gs ∧ Fr [bm] w w'
theorem grp_lt (k : Nat) : grp k < 256 := by unfold grp; split <;> (try split) <;> omega
set_option maxHeartbeats 400000 in
theorem exc_new (k : Nat) (bm bx : Nat) (gs : List Nat) (w : World) (h0 : grp k ≠ 0) (hE : Exc w bm bx gs) (hne : bm ≠ bx) (hn : grp k ∉ gs) :
    Calls Try.prog 37 #[.int .u8 k, .pointer (some ⟨bx, 0, none⟩)] w (ExcQ w bm bx (gs ++ [grp k]) false) := by
  have cG := group_any k w
  have hfn := find_tk (grp k) gs 0 0
  rw [if_neg hn] at hfn
  have hf : Instr.findNow (.int .u8) (.int .u8 (grp k : Nat)) (tkE gs).toList 0 = some none := hfn
  have hlk := look1_no Try.underlying75 Try.underlying5 w bm _ _ hE.m (grp k : Nat) (.bool false) (by
    obtain ⟨iz, hi, hz, _, _⟩ := info_parts (P := Try.prog) (e := 4) (z := .bool false) (size := 1) (bytes := 1) (by kernel_rfl)
    exact zero_run hi hz w) hf
  obtain ⟨w1, hr1, hb1, hG1⟩ := ins_run Try.underlying75 Try.underlying5 w bm _ _ hE.m (grp k : Nat) (.bool true) hf
  rw [← tkE_snoc] at hb1
  have hE1 : Exc w1 bm bx (gs ++ [grp k]) := ⟨by rw [hb1, List.length_append]; rfl, hG1.blk hE.x (by simp; omega)⟩
  have hx : w.cell? ⟨bx, 0, none⟩ = some (.map (some bm)) := by have := hE.x; simp [World.cell?, this]
  have hx1 : w1.cell? ⟨bx, 0, none⟩ = some (.map (some bm)) := by have := hE1.x; simp [World.cell?, this]
  have h0i : (((grp k : Nat) : Int) == 0) = false := by rw [beq_eq_false_iff_ne]; omega
  have CG := Lib.hid cG
  have HE := Lib.hid hE1
  have HG := Lib.hid hG1
  clear cG hfn hf hE1 hG1 hE hn h0 hb1
  generalize grp k = g at CG hlk hr1 HE h0i ⊢
  go_enter Try.func37, Try.ntmps37
  go_wp2_with fail
  refine CG.out.mono ?_
  rintro e w' ⟨rfl, rfl⟩
  go_wp2
  go_ret
  exact ⟨rfl, HE.out, HG.out⟩
set_option maxHeartbeats 400000 in
theorem exc_old (k : Nat) (bm bx : Nat) (gs : List Nat) (w : World) (h0 : grp k ≠ 0) (hE : Exc w bm bx gs) (hne : bm ≠ bx) (hn : grp k ∈ gs) :
    Calls Try.prog 37 #[.int .u8 k, .pointer (some ⟨bx, 0, none⟩)] w fun e w' => e = .returned (.bool true) ∧ Fr [bm] w w' := by
  have cG := group_any k w
  have hfn := find_tk (grp k) gs 0 0
  rw [if_pos hn] at hfn
  have hf : Instr.findNow (.int .u8) (.int .u8 (grp k : Nat)) (tkE gs).toList 0 = some (some (0 + gs.idxOf (grp k), .bool true)) := hfn
  have hlk := look1_yes Try.underlying75 Try.underlying5 w bm _ _ hE.m (grp k : Nat) (.bool true) _ hf
  have hi : gs.idxOf (grp k) < gs.length := List.idxOf_lt_length_of_mem hn
  obtain ⟨w1, hr1, hb1, hG1⟩ := upd_run Try.underlying75 Try.underlying5 w bm _ _ hE.m (grp k : Nat) (.bool true) (.bool true) _ hf (by
    simp [tkE, List.getElem?_zipIdx, List.getElem?_eq_getElem hi])
  have hx : w.cell? ⟨bx, 0, none⟩ = some (.map (some bm)) := by have := hE.x; simp [World.cell?, this]
  have hx1 : w1.cell? ⟨bx, 0, none⟩ = some (.map (some bm)) := hG1.cell hx (by simp; omega)
  have h0i : (((grp k : Nat) : Int) == 0) = false := by rw [beq_eq_false_iff_ne]; omega
  have CG := Lib.hid cG
  have HG := Lib.hid hG1
  clear cG hfn hf hG1 hE hn h0 hb1 hi
  generalize grp k = g at CG hlk hr1 h0i ⊢
  go_enter Try.func37, Try.ntmps37
  go_wp2_with fail
  refine CG.out.mono ?_
  rintro e w' ⟨rfl, rfl⟩
  go_wp2
  go_ret
  exact ⟨rfl, HG.out⟩
end Go.Proofs.Ytekhjpiopbkoaaa
