/- Keys turned and compared; ranges. -/
import Derived.Test.YticopkegbiemjaaDoorKey
import Derived.Laws.Rows
namespace Go.Proofs.YticopkegbiemjaaDoor
open Go.RowKit
set_option linter.unusedVariables false
set_option linter.unnecessarySimpa false
set_option maxRecDepth 20000

theorem last_block (w : World) (o : Obj) : (w.alloc o).heap[w.heap.size]? = some o := by
  show (w.heap.push o)[w.heap.size]? = some o
  simp
set_option maxHeartbeats 1000000 in
theorem turn_any (k a b p q : Nat) (W : World) : Calls Tryd.prog 37 #[KV k a b p q] W fun e w' => e = .returned (KV k b a q p) ∧ Fr [] W w' := by
  unfold KV
  go_enter Tryd.func37, Tryd.ntmps37
  go_wp2
  (try simp only [Exit.inBlock, Exit.then])
  have hl := last_block (W.alloc (.cells #[.int .u8 k, .int .u32 a, .int .u32 b, .int .u16 p, .int .u16 q] 31)) (.cells #[.int .u8 k, .int .u32 b, .int .u32 a, .int .u16 q, .int .u16 p] 31)
  refine bodyPost_ret (results_cell_row rfl _ _ (W.heap.size + 1) _ _ _ _ rfl (by simpa using hl) Tryd.underlying31 rfl (by kernel_rfl)) rfl ⟨rfl, ((Fr.refl _ _).alloc _).alloc _⟩

theorem rightRange_any (a b : Nat) (W : World) : Calls Tryd.prog 43 #[.agg #[.int .u16 a, .int .u16 b]] W fun e w' => e = .returned (.bool (decide (a ≤ b))) ∧ Fr [] W w' := by
  go_enter Tryd.func43, Tryd.ntmps43
  go_wp2
  go_ret
  exact ⟨rfl, (Fr.refl _ _).alloc _⟩
theorem in_any (a b x : Nat) (W : World) : Calls Tryd.prog 44 #[.agg #[.int .u16 a, .int .u16 b], .int .u16 x] W fun e w' => e = .returned (.bool (decide (a ≤ x) && decide (x ≤ b))) ∧ Fr [] W w' := by
  by_cases h : a ≤ x
  · rw [decide_eq_true h]
    have h2 : (a : Int) ≤ x := by omega
    go_enter Tryd.func44, Tryd.ntmps44
    go_wp2
    go_ret
    exact ⟨by simp, (Fr.refl _ _).alloc _⟩
  · rw [decide_eq_false h]
    have h2 : ¬ (a : Int) ≤ x := by omega
    go_enter Tryd.func44, Tryd.ntmps44
    go_wp2
    go_ret
    exact ⟨by simp, (Fr.refl _ _).alloc _⟩

def cmpN (x y : Nat) : Int := if x < y then -1 else if y < x then 1 else 0
theorem cmpN_self (x : Nat) : cmpN x x = 0 := by simp [cmpN]
theorem nan_any (x : Nat) (W : World) : Calls Tryd.prog 74 #[.int .u32 x] W fun e w' => e = .returned (.bool false) ∧ w' = W := by
  go_enter Tryd.func74, Tryd.ntmps74
  go_wp2
  go_ret
  exact ⟨by simp, rfl⟩
theorem cmp_any (x y : Nat) (W : World) : Calls Tryd.prog 66 #[.int .u32 x, .int .u32 y] W fun e w' => e = .returned (.int .i64 (cmpN x y)) ∧ w' = W := by
  have g1 : cmpN x y = if (x : Int) < y then -1 else if (y : Int) < x then 1 else 0 := by unfold cmpN; simp only [Int.ofNat_lt]
  rw [g1]
  by_cases h1 : (x : Int) < y
  · rw [if_pos h1]
    have h2 : x < y := by omega
    go_enter Tryd.func66, Tryd.ntmps66
    go_wp2_with (first | (go_at_call 74; refine (nan_any _ _).mono ?_; rintro e w' ⟨rfl, rfl⟩))
    go_ret
    exact ⟨rfl, rfl⟩
  · rw [if_neg h1]
    have h2 : ¬ x < y := by omega
    by_cases h3 : (y : Int) < x
    · rw [if_pos h3]
      have h4 : y < x := by omega
      go_enter Tryd.func66, Tryd.ntmps66
      go_wp2_with (first | (go_at_call 74; refine (nan_any _ _).mono ?_; rintro e w' ⟨rfl, rfl⟩))
      go_ret
      exact ⟨rfl, rfl⟩
    · rw [if_neg h3]
      have h4 : ¬ y < x := by omega
      go_enter Tryd.func66, Tryd.ntmps66
      go_wp2_with (first | (go_at_call 74; refine (nan_any _ _).mono ?_; rintro e w' ⟨rfl, rfl⟩))
      go_ret
      exact ⟨rfl, rfl⟩

/-- One part more. -/
def thenC (o c : Int) : Int := if o = 0 then c else o
/-- The box that holds the order so far. -/
def OB (w : World) (g : Nat) (o : Int) : Prop := w.cell? ⟨g, 0, none⟩ = some (.int .i64 o) ∧ w.frozen? ⟨g, 0, none⟩ = false
theorem part_any (x y g : Nat) (o : Int) (W : World) (h : OB W g o) : Calls Tryd.prog 65 #[.int .u32 x, .int .u32 y, .pointer (some ⟨g, 0, none⟩)] W fun e w' => e = .returned (.tuple #[]) ∧ OB w' g (thenC o (cmpN x y)) ∧ Fr [g] W w' := by
  obtain ⟨hc, hf⟩ := h
  by_cases h0 : o = 0
  · subst h0
    have e : thenC 0 (cmpN x y) = cmpN x y := rfl
    rw [e]
    go_enter Tryd.func65, Tryd.ntmps65
    go_wp2_with fail
    refine (cmp_any x y _).mono ?_
    rintro e w' ⟨rfl, rfl⟩
    go_wp2_with fail
    go_end0
    exact ⟨rfl, ⟨World.cell?_setCell_same _ _ _ hc, by simpa using hf⟩, (Fr.refl _ _).setCell (.inl (by simp)) _⟩
  · have e : thenC o (cmpN x y) = o := if_neg h0
    rw [e]
    have h1 : (o == 0) = false := by simpa using h0
    go_enter Tryd.func65, Tryd.ntmps65
    go_wp2_with fail
    go_end0
    exact ⟨rfl, ⟨hc, hf⟩, Fr.refl _ _⟩

set_option maxHeartbeats 1000000 in
theorem compare_any (k a b p q k' a' b' p' q' : Nat) (H : KOK k a b p q) (H' : KOK k' a' b' p' q') (W : World) : Calls Tryd.prog 46 #[KV k a b p q, KV k' a' b' p' q'] W fun e w' => e = .returned (.int .i64 (thenC (thenC (thenC (thenC (cmpN k k') (cmpN a a')) (cmpN p p')) (cmpN b b')) (cmpN q q'))) ∧ Fr [] W w' := by
  have g1 : IntKind.u32.wrap (k : Int) = k := by have := H.k; rw [IntKind.wrap_u32]; omega
  have g2 : IntKind.u32.wrap (p : Int) = p := by have := H.p; rw [IntKind.wrap_u32]; omega
  have g3 : IntKind.u32.wrap (q : Int) = q := by have := H.q; rw [IntKind.wrap_u32]; omega
  have g4 : IntKind.u32.wrap (k' : Int) = k' := by have := H'.k; rw [IntKind.wrap_u32]; omega
  have g5 : IntKind.u32.wrap (p' : Int) = p' := by have := H'.p; rw [IntKind.wrap_u32]; omega
  have g6 : IntKind.u32.wrap (q' : Int) = q' := by have := H'.q; rw [IntKind.wrap_u32]; omega
  clear H H'
  unfold KV
  go_enter Tryd.func46, Tryd.ntmps46
  go_wp2_with fail
  have hF : Fr [] W (((W.alloc (.cells #[.int .u8 k, .int .u32 a, .int .u32 b, .int .u16 p, .int .u16 q] 31)).alloc (.cells #[.int .u8 k', .int .u32 a', .int .u32 b', .int .u16 p', .int .u16 q'] 31)).alloc (.cells #[.int .i64 0] 3)) := (((Fr.refl _ _).alloc _).alloc _).alloc _
  have hK : KC (((W.alloc (.cells #[.int .u8 k, .int .u32 a, .int .u32 b, .int .u16 p, .int .u16 q] 31)).alloc (.cells #[.int .u8 k', .int .u32 a', .int .u32 b', .int .u16 p', .int .u16 q'] 31)).alloc (.cells #[.int .i64 0] 3)) W.heap.size k a b p q := (kc_new W k a b p q).fr (((Fr.refl [] _).alloc _).alloc _) (by simp)
  have hK' : KC (((W.alloc (.cells #[.int .u8 k, .int .u32 a, .int .u32 b, .int .u16 p, .int .u16 q] 31)).alloc (.cells #[.int .u8 k', .int .u32 a', .int .u32 b', .int .u16 p', .int .u16 q'] 31)).alloc (.cells #[.int .i64 0] 3)) (W.heap.size + 1) k' a' b' p' q' := by
    have := (kc_new (W.alloc (.cells #[.int .u8 k, .int .u32 a, .int .u32 b, .int .u16 p, .int .u16 q] 31)) k' a' b' p' q').fr ((Fr.refl [] _).alloc (.cells #[.int .i64 0] 3)) (by simp)
    simpa using this
  have hO : OB (((W.alloc (.cells #[.int .u8 k, .int .u32 a, .int .u32 b, .int .u16 p, .int .u16 q] 31)).alloc (.cells #[.int .u8 k', .int .u32 a', .int .u32 b', .int .u16 p', .int .u16 q'] 31)).alloc (.cells #[.int .i64 0] 3)) (W.heap.size + 1 + 1) 0 := by
    have h1 := new_cell ((W.alloc (.cells #[.int .u8 k, .int .u32 a, .int .u32 b, .int .u16 p, .int .u16 q] 31)).alloc (.cells #[.int .u8 k', .int .u32 a', .int .u32 b', .int .u16 p', .int .u16 q'] 31)) #[.int .i64 0] 3 0 _ rfl
    have h2 := World.frozen?_alloc_new ((W.alloc (.cells #[.int .u8 k, .int .u32 a, .int .u32 b, .int .u16 p, .int .u16 q] 31)).alloc (.cells #[.int .u8 k', .int .u32 a', .int .u32 b', .int .u16 p', .int .u16 q'] 31)) #[.int .i64 0] 3 0
    exact ⟨by simpa using h1, by simpa using h2⟩
  generalize (((W.alloc (.cells #[.int .u8 k, .int .u32 a, .int .u32 b, .int .u16 p, .int .u16 q] 31)).alloc (.cells #[.int .u8 k', .int .u32 a', .int .u32 b', .int .u16 p', .int .u16 q'] 31)).alloc (.cells #[.int .i64 0] 3)) = w0 at hF hK hK' hO ⊢
  refine (part_any k k' (W.heap.size + 1 + 1) _ _ hO).mono ?_
  rintro e w1 ⟨rfl, hO1, hG⟩
  replace hK := hK.fr hG (by rw [List.mem_singleton]; omega)
  replace hK' := hK'.fr hG (by rw [List.mem_singleton]; omega)
  replace hF := hF.trans2 hG (by intro t ht; rw [List.mem_singleton] at ht; right; omega)
  replace hO := hO1
  clear hG hO1
  have ⟨c0, c1, c2, c3, c4⟩ := hK
  have ⟨d0, d1, d2, d3, d4⟩ := hK'
  rw [show thenC 0 (cmpN k k') = cmpN k k' from rfl] at hO
  go_wp2_with fail
  refine (part_any a a' (W.heap.size + 1 + 1) _ _ hO).mono ?_
  rintro e w2 ⟨rfl, hO2, hG⟩
  replace hK := hK.fr hG (by rw [List.mem_singleton]; omega)
  replace hK' := hK'.fr hG (by rw [List.mem_singleton]; omega)
  replace hF := hF.trans2 hG (by intro t ht; rw [List.mem_singleton] at ht; right; omega)
  replace hO := hO2
  clear hG hO2
  have ⟨c0, c1, c2, c3, c4⟩ := hK
  have ⟨d0, d1, d2, d3, d4⟩ := hK'
  go_wp2_with fail
  refine (part_any p p' (W.heap.size + 1 + 1) _ _ hO).mono ?_
  rintro e w3 ⟨rfl, hO3, hG⟩
  replace hK := hK.fr hG (by rw [List.mem_singleton]; omega)
  replace hK' := hK'.fr hG (by rw [List.mem_singleton]; omega)
  replace hF := hF.trans2 hG (by intro t ht; rw [List.mem_singleton] at ht; right; omega)
  replace hO := hO3
  clear hG hO3
  have ⟨c0, c1, c2, c3, c4⟩ := hK
  have ⟨d0, d1, d2, d3, d4⟩ := hK'
  go_wp2_with fail
  refine (part_any b b' (W.heap.size + 1 + 1) _ _ hO).mono ?_
  rintro e w4 ⟨rfl, hO4, hG⟩
  replace hK := hK.fr hG (by rw [List.mem_singleton]; omega)
  replace hK' := hK'.fr hG (by rw [List.mem_singleton]; omega)
  replace hF := hF.trans2 hG (by intro t ht; rw [List.mem_singleton] at ht; right; omega)
  replace hO := hO4
  clear hG hO4
  have ⟨c0, c1, c2, c3, c4⟩ := hK
  have ⟨d0, d1, d2, d3, d4⟩ := hK'
  go_wp2_with fail
  refine (part_any q q' (W.heap.size + 1 + 1) _ _ hO).mono ?_
  rintro e w5 ⟨rfl, hO5, hG⟩
  replace hK := hK.fr hG (by rw [List.mem_singleton]; omega)
  replace hK' := hK'.fr hG (by rw [List.mem_singleton]; omega)
  replace hF := hF.trans2 hG (by intro t ht; rw [List.mem_singleton] at ht; right; omega)
  replace hO := hO5
  clear hG hO5
  have ho := hO.1
  go_wp2_with fail
  go_ret
  exact ⟨rfl, hF⟩
end Go.Proofs.YticopkegbiemjaaDoor
