/- ReadPrefix, and what a cut says. -/
import Derived.Test.YteblkheodjibbaaDoorRead
import Derived.Test.YteblkheodjibbaaDoorPre
namespace Go.Proofs.YteblkheodjibbaaDoor
open Go.RowKit
set_option linter.unusedVariables false
set_option maxRecDepth 20000

/-- What stands before and behind the first c; all and nothing, if there is none. -/
def Sep (c : UInt8) (l x y : List UInt8) (b : Bool) : Prop := (b = true ∧ l = x ++ c :: y ∧ c ∉ x) ∨ (b = false ∧ c ∉ l ∧ x = l ∧ y = [])
theorem Sep.fwd {c : UInt8} {l x y u v : List UInt8} {b : Bool} (h : Sep c l x y b) (hu : c ∉ u) (e : l = u ++ c :: v) : x = u ∧ y = v := by
  rcases h with ⟨_, h1, h2⟩ | ⟨_, h1, _⟩
  · exact first_unique h2 hu (h1.symm.trans e)
  · exact absurd (by rw [e]; simp) h1
theorem Sep.bwd {c : UInt8} {l x y u v : List UInt8} {b : Bool} (h : Sep c l x y b) (hv : v ≠ []) (e1 : x = u) (e2 : y = v) : l = u ++ c :: v := by
  rcases h with ⟨_, h1, h2⟩ | ⟨_, _, _, h1⟩
  · rw [h1, e1, e2]
  · exact absurd (e2.symm.trans h1) hv
theorem Sep.len {c : UInt8} {l x y : List UInt8} {b : Bool} (h : Sep c l x y b) : x.length ≤ l.length ∧ y.length ≤ l.length := by
  rcases h with ⟨_, h1, _⟩ | ⟨_, _, rfl, rfl⟩
  · rw [h1]; simp only [List.length_append, List.length_cons]; omega
  · exact ⟨Nat.le_refl _, Nat.zero_le _⟩
theorem cut_any (s : ByteArray) (c : UInt8) (hs : s.size ≤ 281474976710656) (W : World) : Calls Tryd.prog 26 #[.string s, .string ⟨#[c]⟩] W fun e w' => Fr [] W w' ∧ ∃ x y b, Sep c s.data.toList x y b ∧ e = .returned (.tuple #[.string ⟨x.toArray⟩, .string ⟨y.toArray⟩, .bool b]) := by
  refine (cutS_any s c hs W).mono ?_
  rintro e w' ⟨hF, ⟨h1, rfl⟩ | ⟨x, y, h1, h2, rfl⟩⟩
  · exact ⟨hF, s.data.toList, [], false, .inr ⟨rfl, h1, rfl, rfl⟩, by rw [← str_of rfl]⟩
  · exact ⟨hF, x, y, true, .inl ⟨rfl, h1, h2⟩, rfl⟩

/-- A block of the call's own, as it was made. -/
theorem blk_cell {w : World} {g j : Nat} {cs : Array Value} {t : TypeId} {v : Value} (h : w.heap[g]? = some (.cells cs t (0, 0))) (hv : cs[j]? = some v) : w.cell? ⟨g, j, none⟩ = some v := by
  simp [World.cell?, h, hv]
theorem blk_fz {w : World} {g j : Nat} {cs : Array Value} {t : TypeId} (h : w.heap[g]? = some (.cells cs t (0, 0))) : w.frozen? ⟨g, j, none⟩ = false := by
  simp [World.frozen?, h]
theorem blk_new (w : World) (cs : Array Value) (t : TypeId) : (w.alloc (.cells cs t)).heap[w.heap.size]? = some (.cells cs t (0, 0)) := by
  show (w.heap.push _)[w.heap.size]? = _
  simp

theorem two_set {w : World} {g : Nat} {t : TypeId} {o0 o1 : Value} (hb : w.heap[g]? = some (.cells #[o0, o1] t (0, 0))) (v0 v1 : Value) :
    ((w.setCell ⟨g, 0, none⟩ v0).setCell ⟨g, 1, none⟩ v1).cell? ⟨g, 0, none⟩ = some v0 ∧ ((w.setCell ⟨g, 0, none⟩ v0).setCell ⟨g, 1, none⟩ v1).cell? ⟨g, 1, none⟩ = some v1 := by
  constructor
  · rw [World.cell?_setCell_other _ _ _ _ (by simp)]
    exact World.cell?_setCell_same _ _ _ (blk_cell (j := 0) hb rfl)
  · refine World.cell?_setCell_same _ _ _ (?_ : _ = some o1)
    rw [World.cell?_setCell_other _ _ _ _ (by simp)]
    exact blk_cell (j := 1) hb rfl

def RdpP (W : World) (s : ByteArray) (e : Ending) (w' : World) : Prop :=
  Fr [] W w' ∧ ((∃ a n, a < 4294967296 ∧ n < 256 ∧ PR a n ∧ s.data.toList = ptext a n ∧ e = .returned (.tuple #[.agg #[.int .u32 a, .int .u8 n], .int .i64 0])) ∨
    ((∀ a n, a < 4294967296 → n < 256 → PR a n → s.data.toList ≠ ptext a n) ∧ e = .returned (.tuple #[.agg #[.int .u32 0, .int .u8 0], .int .i64 30])))
set_option maxHeartbeats 4000000 in
theorem readPrefix_any (s : ByteArray) (hs : s.size ≤ 281474976710656) (W : World) (hV : VV W) : Calls Tryd.prog 10 #[.string s] W (RdpP W s) := by
  have hF0 : Fr [] W (W.alloc (.cells #[.int .u32 0, .int .u8 0] 34)) := (Fr.refl _ _).alloc _
  have hb0 := blk_new W #[.int .u32 0, .int .u8 0] 34
  go_enter Tryd.func10, Tryd.ntmps10
  go_wp2_with fail
  generalize W.alloc (.cells #[.int .u32 0, .int .u8 0] 34) = w0 at hF0 hb0 ⊢
  refine (cut_any s 47 hs _).mono ?_
  rintro e w1 ⟨hF1, x, y, b, hS, rfl⟩
  have hSL := hS.len
  have HS := Lib.hid hS
  have hsx : (⟨x.toArray⟩ : ByteArray).size ≤ 281474976710656 := by rw [size_of]; rw [size_of] at hs; exact Nat.le_trans hSL.1 hs
  have hsy : (⟨y.toArray⟩ : ByteArray).size ≤ 281474976710656 := by rw [size_of]; rw [size_of] at hs; exact Nat.le_trans hSL.2 hs
  have HSX := Lib.hid hsx
  have HSY := Lib.hid hsy
  have hV1 := (hV.fr hF0).fr hF1
  have hb1 := hF1.blk hb0 (by simp)
  replace hF1 := hF0.trans hF1
  clear hS hSL hsx hsy hF0 hb0
  go_wp2_with fail
  refine (read_any _ HSX.out _ hV1).mono ?_
  rintro e w2 ⟨hF2, hR⟩
  have hV2 := hV1.fr hF2
  have hb2 := hF2.blk hb1 (by simp)
  replace hF1 := hF1.trans hF2
  clear hF2 hb1 hV1
  have fail : (∀ a n, a < 4294967296 → n < 256 → PR a n → ¬ (x = atext a ∧ y = dec n)) → ∀ a n, a < 4294967296 → n < 256 → PR a n → s.data.toList ≠ ptext a n := fun h a n ha hn hp he => h a n ha hn hp (HS.out.fwd (atext_free (by decide) (by decide) a) he)
  have FAIL := Lib.hid fail
  clear fail
  rcases hR with ⟨a, ha, hx, rfl⟩ | ⟨hx, rfl⟩
  · have HX := Lib.hid hx
    clear hx
    go_wp2_with fail
    refine (num8_any _ HSY.out _ hV2).mono ?_
    rintro e w3 ⟨hF3, ⟨n, hn, hy, rfl⟩ | ⟨hy, rfl⟩⟩
    · have HY := Lib.hid hy
      have hb3 := hF3.blk hb2 (by simp)
      replace hF1 := hF1.trans hF3
      clear hy hb2 hV2 hF3
      have hRt := fun W => right_any a n ha hn W
      by_cases hp : PR a n
      · rw [decide_eq_true hp] at hRt
        go_wp2_with fail
        refine (hRt _).mono ?_
        rintro e w4 ⟨rfl, hF4⟩
        have hc0 : w4.cell? ⟨w3.heap.size, 0, none⟩ = some (.int .u32 a) := hF4.cell (new_cell _ _ _ 0 _ rfl) (by simp)
        have hc1 : w4.cell? ⟨w3.heap.size, 1, none⟩ = some (.int .u8 n) := hF4.cell (new_cell _ _ _ 1 _ rfl) (by simp)
        replace hF4 := ((Fr.refl [] w3).alloc _).trans hF4
        have hb4 := hF4.blk hb3 (by simp)
        replace hF1 := hF1.trans hF4
        have z0 := blk_cell hb4 (j := 0) rfl
        have z1 := blk_cell hb4 (j := 1) rfl
        have z2 := blk_fz (j := 0) hb4
        have z3 := blk_fz (j := 1) hb4
        clear hF4 hb3 hRt
        go_wp2_with fail
        (try simp only [Exit.inBlock, Exit.then])
        have ⟨e0, e1⟩ := two_set hb4 (.int .u32 a) (.int .u8 n)
        refine bodyPost_ret (v := .tuple #[.agg #[(.int .u32 a), (.int .u8 n)], .int .i64 0]) ?_ rfl ⟨(hF1.setCell (.inr (Nat.le_refl _)) _).setCell (.inr (Nat.le_refl _)) _, .inl ⟨a, n, ha, hn, hp, HS.out.bwd (dec_ne n) HX.out HY.out, rfl⟩⟩
        rw [results_cell_tmp rfl]
        generalize (World.setCell _ _ _) = wz at e0 e1 ⊢
        go_simp
      · rw [decide_eq_false hp] at hRt
        go_wp2_with fail
        refine (hRt _).mono ?_
        rintro e w4 ⟨rfl, hF4⟩
        replace hF4 := ((Fr.refl [] w3).alloc _).trans hF4
        have hb4 := hF4.blk hb3 (by simp)
        replace hF1 := hF1.trans hF4
        have z0 := blk_cell hb4 (j := 0) rfl
        have z1 := blk_cell hb4 (j := 1) rfl
        have z2 := blk_fz (j := 0) hb4
        have z3 := blk_fz (j := 1) hb4
        clear hF4 hb3 hRt
        go_wp2_with fail
        (try simp only [Exit.inBlock, Exit.then])
        have ⟨e0, e1⟩ := two_set hb4 (.int .u32 0) (.int .u8 0)
        refine bodyPost_ret (v := .tuple #[.agg #[(.int .u32 0), (.int .u8 0)], .int .i64 30]) ?_ rfl ⟨(hF1.setCell (.inr (Nat.le_refl _)) _).setCell (.inr (Nat.le_refl _)) _, .inr ⟨FAIL.out fun a' n' ha' hn' hp' h => hp (by rw [atext_inj ha ha' (HX.out.symm.trans h.1), dec_inj (by omega) (by omega) (HY.out.symm.trans h.2)]; exact hp'), rfl⟩⟩
        rw [results_cell_tmp rfl]
        generalize (World.setCell _ _ _) = wz at e0 e1 ⊢
        go_simp
    · have HY := Lib.hid hy
      replace hF1 := hF1.trans hF3
      have hb3 := hF3.blk hb2 (by simp)
      have hb4 := ((Fr.refl [] w3).alloc (.cells #[.int .u32 a, .int .u8 0] 34)).blk hb3 (by simp)
      replace hF1 := hF1.trans ((Fr.refl [] w3).alloc (.cells #[.int .u32 a, .int .u8 0] 34))
      have z0 := blk_cell hb4 (j := 0) rfl
      have z1 := blk_cell hb4 (j := 1) rfl
      have z2 := blk_fz (j := 0) hb4
      have z3 := blk_fz (j := 1) hb4
      clear hy hb2 hV2 hF3 hb3
      go_wp2_with fail
      (try simp only [Exit.inBlock, Exit.then])
      have ⟨e0, e1⟩ := two_set hb4 (.int .u32 0) (.int .u8 0)
      refine bodyPost_ret (v := .tuple #[.agg #[(.int .u32 0), (.int .u8 0)], .int .i64 30]) ?_ rfl ⟨(hF1.setCell (.inr (Nat.le_refl _)) _).setCell (.inr (Nat.le_refl _)) _, .inr ⟨FAIL.out fun a' n' _ hn' _ h => HY.out n' hn' h.2, rfl⟩⟩
      rw [results_cell_tmp rfl]
      generalize (World.setCell _ _ _) = wz at e0 e1 ⊢
      go_simp
  · have HX := Lib.hid hx
    clear hx
    go_wp2_with fail
    refine (num8_any _ HSY.out _ hV2).mono ?_
    rintro e w3 ⟨hF3, ⟨n, hn, hy, rfl⟩ | ⟨hy, rfl⟩⟩
    · have HY := Lib.hid hy
      replace hF1 := hF1.trans hF3
      have hb3 := hF3.blk hb2 (by simp)
      have hb4 := ((Fr.refl [] w3).alloc (.cells #[.int .u32 0, .int .u8 n] 34)).blk hb3 (by simp)
      replace hF1 := hF1.trans ((Fr.refl [] w3).alloc (.cells #[.int .u32 0, .int .u8 n] 34))
      have z0 := blk_cell hb4 (j := 0) rfl
      have z1 := blk_cell hb4 (j := 1) rfl
      have z2 := blk_fz (j := 0) hb4
      have z3 := blk_fz (j := 1) hb4
      clear hy hb2 hV2 hF3 hb3
      go_wp2_with fail
      (try simp only [Exit.inBlock, Exit.then])
      have ⟨e0, e1⟩ := two_set hb4 (.int .u32 0) (.int .u8 0)
      refine bodyPost_ret (v := .tuple #[.agg #[(.int .u32 0), (.int .u8 0)], .int .i64 30]) ?_ rfl ⟨(hF1.setCell (.inr (Nat.le_refl _)) _).setCell (.inr (Nat.le_refl _)) _, .inr ⟨FAIL.out fun a' n' ha' _ _ h => HX.out a' ha' h.1, rfl⟩⟩
      rw [results_cell_tmp rfl]
      generalize (World.setCell _ _ _) = wz at e0 e1 ⊢
      go_simp
    · have HY := Lib.hid hy
      replace hF1 := hF1.trans hF3
      have hb3 := hF3.blk hb2 (by simp)
      have hb4 := ((Fr.refl [] w3).alloc (.cells #[.int .u32 0, .int .u8 0] 34)).blk hb3 (by simp)
      replace hF1 := hF1.trans ((Fr.refl [] w3).alloc (.cells #[.int .u32 0, .int .u8 0] 34))
      have z0 := blk_cell hb4 (j := 0) rfl
      have z1 := blk_cell hb4 (j := 1) rfl
      have z2 := blk_fz (j := 0) hb4
      have z3 := blk_fz (j := 1) hb4
      clear hy hb2 hV2 hF3 hb3
      go_wp2_with fail
      (try simp only [Exit.inBlock, Exit.then])
      have ⟨e0, e1⟩ := two_set hb4 (.int .u32 0) (.int .u8 0)
      refine bodyPost_ret (v := .tuple #[.agg #[(.int .u32 0), (.int .u8 0)], .int .i64 30]) ?_ rfl ⟨(hF1.setCell (.inr (Nat.le_refl _)) _).setCell (.inr (Nat.le_refl _)) _, .inr ⟨FAIL.out fun a' n' ha' _ _ h => HX.out a' ha' h.1, rfl⟩⟩
      rw [results_cell_tmp rfl]
      generalize (World.setCell _ _ _) = wz at e0 e1 ⊢
      go_simp
end Go.Proofs.YteblkheodjibbaaDoor
