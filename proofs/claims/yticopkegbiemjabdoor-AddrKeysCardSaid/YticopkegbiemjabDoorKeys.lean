/- AddrKeys: keys turned twice, keys in one order. -/
import Derived.Test.YticopkegbiemjabDoorAwk
import Derived.Test.YticopkegbiemjabDoorOrd
import Derived.Sort.AtCall
namespace Go.Proofs.YticopkegbiemjabDoor
open Go.RowKit
set_option linter.unusedVariables false
set_option maxRecDepth 100000

/-- The five parts' order. -/
def ord (k a b p q k' a' b' p' q' : Nat) : Int := thenC (thenC (thenC (thenC (cmpN k k') (cmpN a a')) (cmpN p p')) (cmpN b b')) (cmpN q q')
/-- Three orders that agree. -/
def Tr (x y z : Int) : Prop := (x = 0 → z = y) ∧ (y = 0 → z = x) ∧ (x < 0 → y < 0 → z < 0)
theorem tr_cmp (x y z : Nat) : Tr (cmpN x y) (cmpN y z) (cmpN x z) := by
  unfold Tr cmpN
  refine ⟨?_, ?_, ?_⟩ <;> (repeat' split) <;> omega
theorem tr_then {x y z x' y' z' : Int} (h : Tr x y z) (g : Tr x' y' z') : Tr (thenC x x') (thenC y y') (thenC z z') := by
  unfold Tr at h g ⊢
  unfold thenC
  refine ⟨?_, ?_, ?_⟩ <;> (repeat' split) <;> omega
theorem cmp_neg (x y : Nat) : cmpN y x = -cmpN x y := by unfold cmpN; (repeat' split) <;> omega
theorem then_neg (o c : Int) : thenC (-o) (-c) = -thenC o c := by unfold thenC; (repeat' split) <;> omega
theorem cmp_b (x y : Nat) : -1 ≤ cmpN x y ∧ cmpN x y ≤ 1 := by unfold cmpN; (repeat' split) <;> omega
theorem then_b {o c : Int} (h : -1 ≤ o ∧ o ≤ 1) (g : -1 ≤ c ∧ c ≤ 1) : -1 ≤ thenC o c ∧ thenC o c ≤ 1 := by unfold thenC; split <;> assumption
theorem cmp_z (x y : Nat) : cmpN x y = 0 ↔ x = y := by unfold cmpN; (repeat' split) <;> omega
theorem then_z (o c : Int) : thenC o c = 0 ↔ o = 0 ∧ c = 0 := by unfold thenC; split <;> omega
theorem ord_neg (k a b p q k' a' b' p' q' : Nat) : ord k' a' b' p' q' k a b p q = -ord k a b p q k' a' b' p' q' := by
  unfold ord
  rw [cmp_neg k k', cmp_neg a a', cmp_neg p p', cmp_neg b b', cmp_neg q q', then_neg, then_neg, then_neg, then_neg]
theorem ord_b (k a b p q k' a' b' p' q' : Nat) : -1 ≤ ord k a b p q k' a' b' p' q' ∧ ord k a b p q k' a' b' p' q' ≤ 1 :=
  then_b (then_b (then_b (then_b (cmp_b _ _) (cmp_b _ _)) (cmp_b _ _)) (cmp_b _ _)) (cmp_b _ _)
theorem ord_z (k a b p q k' a' b' p' q' : Nat) : ord k a b p q k' a' b' p' q' = 0 ↔ (k = k' ∧ a = a' ∧ b = b' ∧ p = p' ∧ q = q') := by
  unfold ord
  rw [then_z, then_z, then_z, then_z, cmp_z, cmp_z, cmp_z, cmp_z, cmp_z]
  constructor
  · rintro ⟨⟨⟨⟨h1, h2⟩, h3⟩, h4⟩, h5⟩; exact ⟨h1, h2, h4, h3, h5⟩
  · rintro ⟨h1, h2, h4, h3, h5⟩; exact ⟨⟨⟨⟨h1, h2⟩, h3⟩, h4⟩, h5⟩
theorem ord_tr (k a b p q k' a' b' p' q' k'' a'' b'' p'' q'' : Nat) : Tr (ord k a b p q k' a' b' p' q') (ord k' a' b' p' q' k'' a'' b'' p'' q'') (ord k a b p q k'' a'' b'' p'' q'') :=
  tr_then (tr_then (tr_then (tr_then (tr_cmp _ _ _) (tr_cmp _ _ _)) (tr_cmp _ _ _)) (tr_cmp _ _ _)) (tr_cmp _ _ _)
theorem cmpk_any (k a b p q k' a' b' p' q' : Nat) (H : KOK k a b p q) (H' : KOK k' a' b' p' q') (x : Int) (hx : x = ord k a b p q k' a' b' p' q') (W : World) : Calls Tryd.prog 8 #[KV k a b p q, KV k' a' b' p' q'] W fun e w' => e = .returned (.int .i64 x) ∧ Fr [] W w' := by
  subst hx
  exact compare_any k a b p q k' a' b' p' q' H H' W

set_option maxHeartbeats 8000000 in
theorem keys_any (k a b p q k' a' b' p' q' k'' a'' b'' p'' q'' : Nat) (H : KOK k a b p q) (H' : KOK k' a' b' p' q') (H'' : KOK k'' a'' b'' p'' q'') (w : World) (hV : VV w) :
    Calls Tryd.prog 3 #[KV k a b p q, KV k' a' b' p' q', KV k'' a'' b'' p'' q''] w fun e w' => e = .returned (.bool true) ∧ Fr [] w w' := by
  have A1 := kc_new w k a b p q
  have hs1 : (w.alloc (.cells #[.int .u8 k, .int .u32 a, .int .u32 b, .int .u16 p, .int .u16 q] 25)).heap.size = w.heap.size + 1 := by simp
  have A2 := kc_new (w.alloc (.cells #[.int .u8 k, .int .u32 a, .int .u32 b, .int .u16 p, .int .u16 q] 25)) k' a' b' p' q'
  rw [hs1] at A2
  have hs2 : ((w.alloc (.cells #[.int .u8 k, .int .u32 a, .int .u32 b, .int .u16 p, .int .u16 q] 25)).alloc (.cells #[.int .u8 k', .int .u32 a', .int .u32 b', .int .u16 p', .int .u16 q'] 25)).heap.size = w.heap.size + 1 + 1 := by simp
  have A3 := kc_new ((w.alloc (.cells #[.int .u8 k, .int .u32 a, .int .u32 b, .int .u16 p, .int .u16 q] 25)).alloc (.cells #[.int .u8 k', .int .u32 a', .int .u32 b', .int .u16 p', .int .u16 q'] 25)) k'' a'' b'' p'' q''
  rw [hs2] at A3
  replace A1 := (A1.fr ((Fr.refl [] _).alloc (.cells #[.int .u8 k', .int .u32 a', .int .u32 b', .int .u16 p', .int .u16 q'] 25)) (by simp)).fr ((Fr.refl [] _).alloc (.cells #[.int .u8 k'', .int .u32 a'', .int .u32 b'', .int .u16 p'', .int .u16 q''] 25)) (by simp)
  replace A2 := A2.fr ((Fr.refl [] _).alloc (.cells #[.int .u8 k'', .int .u32 a'', .int .u32 b'', .int .u16 p'', .int .u16 q''] 25)) (by simp)
  have hF : Fr [] w (((w.alloc (.cells #[.int .u8 k, .int .u32 a, .int .u32 b, .int .u16 p, .int .u16 q] 25)).alloc (.cells #[.int .u8 k', .int .u32 a', .int .u32 b', .int .u16 p', .int .u16 q'] 25)).alloc (.cells #[.int .u8 k'', .int .u32 a'', .int .u32 b'', .int .u16 p'', .int .u16 q''] 25)) := (((Fr.refl [] w).alloc _).alloc _).alloc _
  clear hs1 hs2
  unfold KV
  go_enter Tryd.func3, Tryd.ntmps3
  go_wp2_with fail
  generalize ((w.alloc (.cells #[.int .u8 k, .int .u32 a, .int .u32 b, .int .u16 p, .int .u16 q] 25)).alloc (.cells #[.int .u8 k', .int .u32 a', .int .u32 b', .int .u16 p', .int .u16 q'] 25)).alloc (.cells #[.int .u8 k'', .int .u32 a'', .int .u32 b'', .int .u16 p'', .int .u16 q''] 25) = w3 at A1 A2 A3 hF ⊢
  generalize w.heap.size + 1 + 1 = g3 at A3 ⊢
  generalize w.heap.size + 1 = g2 at A2 ⊢
  generalize w.heap.size = g1 at A1 ⊢
  refine (awake_any _ (hV.fr hF)).mono ?_
  rintro e w4 ⟨rfl, hF4⟩
  replace hF := hF.trans hF4
  replace A1 := A1.fr hF4 (by simp)
  replace A2 := A2.fr hF4 (by simp)
  replace A3 := A3.fr hF4 (by simp)
  clear hF4
  have d0 := A1.c0
  have d1 := A1.c1
  have d2 := A1.c2
  have d3 := A1.c3
  have d4 := A1.c4
  go_wp2_with fail
  refine (turn_any k a b p q _).mono ?_
  rintro e w5 ⟨rfl, hF5⟩
  have T := kc_new w5 k b a q p
  replace hF := (hF.trans hF5).alloc (.cells #[.int .u8 k, .int .u32 b, .int .u32 a, .int .u16 q, .int .u16 p] 25)
  have hF6 := hF5.alloc (.cells #[.int .u8 k, .int .u32 b, .int .u32 a, .int .u16 q, .int .u16 p] 25)
  replace A1 := A1.fr hF6 (by simp)
  replace A2 := A2.fr hF6 (by simp)
  replace A3 := A3.fr hF6 (by simp)
  clear hF5 hF6 d0 d1 d2 d3 d4
  unfold KV
  go_wp2_with fail
  generalize w5.alloc (.cells #[.int .u8 k, .int .u32 b, .int .u32 a, .int .u16 q, .int .u16 p] 25) = w6 at A1 A2 A3 T hF ⊢
  generalize w5.heap.size = gt at T ⊢
  have xa0 := xt_cell A1.c0
  have xa1 := xt_cell A1.c1
  have xa2 := xt_cell A1.c2
  have xa3 := xt_cell A1.c3
  have xa4 := xt_cell A1.c4
  have xt0 := xt_cell T.c0
  have xt1 := xt_cell T.c1
  have xt2 := xt_cell T.c2
  have xt3 := xt_cell T.c3
  have xt4 := xt_cell T.c4
  have hT : ∀ W', Calls Tryd.prog 7 #[.agg #[.int .u8 k, .int .u32 b, .int .u32 a, .int .u16 q, .int .u16 p]] W' fun e w'' => e = .returned (.agg #[.int .u8 k, .int .u32 a, .int .u32 b, .int .u16 p, .int .u16 q]) ∧ Fr [] W' w'' := fun W' => turn_any k b a q p W'
  rename_i K1 h1 K0 h0
  have rest : ∀ (u14 u15 u16 u17 u18 u19 u20 u21 u22 u23 u24 u25 u26 u27 u28 u29 u30 u31 u32 u33 u34 u35 u36 u37 u38 u39 u40 u41 u42 u43 u44 u45 u46 u47 u48 u49 u50 u51 u52 u53 u54 u55 u56 u57 u58 : Value) (w7 : World), Fr [] w w7 → KC w7 g1 k a b p q → KC w7 g2 k' a' b' p' q' → KC w7 g3 k'' a'' b'' p'' q'' → K1 { tmps := #[Value.agg #[Value.int IntKind.u8 (k : Int), Value.int IntKind.u32 (a : Int), Value.int IntKind.u32 (b : Int), Value.int IntKind.u16 (p : Int), Value.int IntKind.u16 (q : Int)], Value.agg #[Value.int IntKind.u8 (k' : Int), Value.int IntKind.u32 (a' : Int), Value.int IntKind.u32 (b' : Int), Value.int IntKind.u16 (p' : Int), Value.int IntKind.u16 (q' : Int)], Value.agg #[Value.int IntKind.u8 (k'' : Int), Value.int IntKind.u32 (a'' : Int), Value.int IntKind.u32 (b'' : Int), Value.int IntKind.u16 (p'' : Int), Value.int IntKind.u16 (q'' : Int)], Value.pointer (some ⟨g1, 0, none⟩), Value.pointer (some ⟨g2, 0, none⟩), Value.pointer (some ⟨g3, 0, none⟩), Value.bool false, Value.pointer (some ⟨gt, 0, none⟩), undef, undef, undef, undef, Value.bool true, Value.bool false, u14, u15, u16, u17, u18, u19, u20, u21, u22, u23, u24, u25, u26, u27, u28, u29, u30, u31, u32, u33, u34, u35, u36, u37, u38, u39, u40, u41, u42, u43, u44, u45, u46, u47, u48, u49, u50, u51, u52, u53, u54, u55, u56, u57, u58, undef, undef, undef, undef, undef, undef, undef, undef, undef, undef, undef, undef, undef, undef, undef, undef, undef, undef, undef, undef, undef, undef, undef, undef, undef, undef, undef, undef, undef, undef, undef, undef, undef, undef, undef, undef, undef, undef, undef, undef, undef, undef, undef, undef, undef, undef, undef, undef, undef, undef, undef, undef, undef, undef], defers := [] } w7 := by
    intro u14 u15 u16 u17 u18 u19 u20 u21 u22 u23 u24 u25 u26 u27 u28 u29 u30 u31 u32 u33 u34 u35 u36 u37 u38 u39 u40 u41 u42 u43 u44 u45 u46 u47 u48 u49 u50 u51 u52 u53 u54 u55 u56 u57 u58 w7 hy A1 A2 A3
    refine h1 _ _ ?_
    clear h0 h1 xa0 xa1 xa2 xa3 xa4 xt0 xt1 xt2 xt3 xt4 T hT hF
    go_wp2_with fail
    obtain ⟨x1, hx1⟩ : ∃ x, x = ord k a b p q k' a' b' p' q' := ⟨_, rfl⟩
    obtain ⟨x3, hx3⟩ : ∃ x, x = ord k' a' b' p' q' k'' a'' b'' p'' q'' := ⟨_, rfl⟩
    obtain ⟨x4, hx4⟩ : ∃ x, x = ord k a b p q k'' a'' b'' p'' q'' := ⟨_, rfl⟩
    have hneg : -x1 = ord k' a' b' p' q' k a b p q := by rw [hx1]; exact (ord_neg _ _ _ _ _ _ _ _ _ _).symm
    have hC1 : ∀ W', Calls Tryd.prog 8 #[Value.agg #[Value.int IntKind.u8 (k : Int), Value.int IntKind.u32 (a : Int), Value.int IntKind.u32 (b : Int), Value.int IntKind.u16 (p : Int), Value.int IntKind.u16 (q : Int)], Value.agg #[Value.int IntKind.u8 (k' : Int), Value.int IntKind.u32 (a' : Int), Value.int IntKind.u32 (b' : Int), Value.int IntKind.u16 (p' : Int), Value.int IntKind.u16 (q' : Int)]] W' fun e w'' => e = .returned (.int .i64 x1) ∧ Fr [] W' w'' := fun W' => cmpk_any k a b p q k' a' b' p' q' H H' x1 hx1 W'
    have hC2 : ∀ W', Calls Tryd.prog 8 #[Value.agg #[Value.int IntKind.u8 (k' : Int), Value.int IntKind.u32 (a' : Int), Value.int IntKind.u32 (b' : Int), Value.int IntKind.u16 (p' : Int), Value.int IntKind.u16 (q' : Int)], Value.agg #[Value.int IntKind.u8 (k : Int), Value.int IntKind.u32 (a : Int), Value.int IntKind.u32 (b : Int), Value.int IntKind.u16 (p : Int), Value.int IntKind.u16 (q : Int)]] W' fun e w'' => e = .returned (.int .i64 (-x1)) ∧ Fr [] W' w'' := fun W' => cmpk_any k' a' b' p' q' k a b p q H' H (-x1) hneg W'
    have hC3 : ∀ W', Calls Tryd.prog 8 #[Value.agg #[Value.int IntKind.u8 (k' : Int), Value.int IntKind.u32 (a' : Int), Value.int IntKind.u32 (b' : Int), Value.int IntKind.u16 (p' : Int), Value.int IntKind.u16 (q' : Int)], Value.agg #[Value.int IntKind.u8 (k'' : Int), Value.int IntKind.u32 (a'' : Int), Value.int IntKind.u32 (b'' : Int), Value.int IntKind.u16 (p'' : Int), Value.int IntKind.u16 (q'' : Int)]] W' fun e w'' => e = .returned (.int .i64 x3) ∧ Fr [] W' w'' := fun W' => cmpk_any k' a' b' p' q' k'' a'' b'' p'' q'' H' H'' x3 hx3 W'
    have hC4 : ∀ W', Calls Tryd.prog 8 #[Value.agg #[Value.int IntKind.u8 (k : Int), Value.int IntKind.u32 (a : Int), Value.int IntKind.u32 (b : Int), Value.int IntKind.u16 (p : Int), Value.int IntKind.u16 (q : Int)], Value.agg #[Value.int IntKind.u8 (k'' : Int), Value.int IntKind.u32 (a'' : Int), Value.int IntKind.u32 (b'' : Int), Value.int IntKind.u16 (p'' : Int), Value.int IntKind.u16 (q'' : Int)]] W' fun e w'' => e = .returned (.int .i64 x4) ∧ Fr [] W' w'' := fun W' => cmpk_any k a b p q k'' a'' b'' p'' q'' H H'' x4 hx4 W'
    have y10 := xt_cell A1.c0
    have y11 := xt_cell A1.c1
    have y12 := xt_cell A1.c2
    have y13 := xt_cell A1.c3
    have y14 := xt_cell A1.c4
    have y20 := xt_cell A2.c0
    have y21 := xt_cell A2.c1
    have y22 := xt_cell A2.c2
    have y23 := xt_cell A2.c3
    have y24 := xt_cell A2.c4
    have y30 := xt_cell A3.c0
    have y31 := xt_cell A3.c1
    have y32 := xt_cell A3.c2
    have y33 := xt_cell A3.c3
    have y34 := xt_cell A3.c4
    have hb1 : -1 ≤ x1 ∧ x1 ≤ 1 := by rw [hx1]; exact ord_b _ _ _ _ _ _ _ _ _ _
    have hz1 := ord_z k a b p q k' a' b' p' q'
    rw [← hx1] at hz1
    have htr : Tr x1 x3 x4 := by rw [hx1, hx3, hx4]; exact ord_tr _ _ _ _ _ _ _ _ _ _ _ _ _ _ _
    clear hx1 hx3 hx4 hneg A1 A2 A3
    refine wp_region_xt (by kernel_rfl) (by kernel_rfl) ?_
    repeat (go_big_quiet_step ((first
      | (go_at_call_has 8 ([Value.agg #[Value.int IntKind.u8 (k' : Int), Value.int IntKind.u32 (a' : Int), Value.int IntKind.u32 (b' : Int), Value.int IntKind.u16 (p' : Int), Value.int IntKind.u16 (q' : Int)]]); go_at_call_has 8 (Value.agg #[Value.int IntKind.u8 (k : Int), Value.int IntKind.u32 (a : Int), Value.int IntKind.u32 (b : Int), Value.int IntKind.u16 (p : Int), Value.int IntKind.u16 (q : Int)]); exact Calls.xt (fun W' _ => hC1 W') _)
      | (go_at_call_has 8 ([Value.agg #[Value.int IntKind.u8 (k : Int), Value.int IntKind.u32 (a : Int), Value.int IntKind.u32 (b : Int), Value.int IntKind.u16 (p : Int), Value.int IntKind.u16 (q : Int)]]); go_at_call_has 8 (Value.agg #[Value.int IntKind.u8 (k' : Int), Value.int IntKind.u32 (a' : Int), Value.int IntKind.u32 (b' : Int), Value.int IntKind.u16 (p' : Int), Value.int IntKind.u16 (q' : Int)]); exact Calls.xt (fun W' _ => hC2 W') _)
      | (go_at_call_has 8 ([Value.agg #[Value.int IntKind.u8 (k'' : Int), Value.int IntKind.u32 (a'' : Int), Value.int IntKind.u32 (b'' : Int), Value.int IntKind.u16 (p'' : Int), Value.int IntKind.u16 (q'' : Int)]]); go_at_call_has 8 (Value.agg #[Value.int IntKind.u8 (k' : Int), Value.int IntKind.u32 (a' : Int), Value.int IntKind.u32 (b' : Int), Value.int IntKind.u16 (p' : Int), Value.int IntKind.u16 (q' : Int)]); exact Calls.xt (fun W' _ => hC3 W') _)
      | (go_at_call_has 8 ([Value.agg #[Value.int IntKind.u8 (k'' : Int), Value.int IntKind.u32 (a'' : Int), Value.int IntKind.u32 (b'' : Int), Value.int IntKind.u16 (p'' : Int), Value.int IntKind.u16 (q'' : Int)]]); go_at_call_has 8 (Value.agg #[Value.int IntKind.u8 (k : Int), Value.int IntKind.u32 (a : Int), Value.int IntKind.u32 (b : Int), Value.int IntKind.u16 (p : Int), Value.int IntKind.u16 (q : Int)]); exact Calls.xt (fun W' _ => hC4 W') _))))
    refine wpQuiet_nil ?_
    rintro w8 ⟨z, rfl⟩
    have hz := hy.trans (xt_fr z)
    replace y10 := y10 z
    replace y11 := y11 z
    replace y12 := y12 z
    replace y13 := y13 z
    replace y14 := y14 z
    replace y20 := y20 z
    replace y21 := y21 z
    replace y22 := y22 z
    replace y23 := y23 z
    replace y24 := y24 z
    clear hC1 hC2 hC3 hC4 y30 y31 y32 y33 y34
    have g1w : IntKind.i64.wrap x1 = x1 := by rw [IntKind.wrap_i64]; omega
    have HT := Lib.hid (And.intro hz1 htr)
    clear hz1 htr
    by_cases e0 : k = k'
    rotate_left
    · have n1 : ((k : Int) == (k' : Int)) = false := by rw [beq_eq_false_iff_ne]; omega
      have z0 : x1 ≠ 0 := fun h0 => e0 (HT.out.1.1 h0).1
      have z1 : (x1 == 0) = false := beq_eq_false_iff_ne.2 z0
      go_wp2_with fail
      all_goals
        go_ret
        refine ⟨congrArg (fun b => Ending.returned (Value.bool b)) ?_, hz⟩
        have h2 := HT.out.2
        unfold Tr at h2
        first | rfl | (exfalso; omega) | (rw [Bool.or_eq_true, decide_eq_true_eq, decide_eq_true_eq]; omega) | (rw [decide_eq_true_eq]; omega) | (simp; omega)
    subst e0
    by_cases e1 : a = a'
    rotate_left
    · have n1 : ((a : Int) == (a' : Int)) = false := by rw [beq_eq_false_iff_ne]; omega
      have z0 : x1 ≠ 0 := fun h0 => e1 (HT.out.1.1 h0).2.1
      have z1 : (x1 == 0) = false := beq_eq_false_iff_ne.2 z0
      go_wp2_with fail
      all_goals
        go_ret
        refine ⟨congrArg (fun b => Ending.returned (Value.bool b)) ?_, hz⟩
        have h2 := HT.out.2
        unfold Tr at h2
        first | rfl | (exfalso; omega) | (rw [Bool.or_eq_true, decide_eq_true_eq, decide_eq_true_eq]; omega) | (rw [decide_eq_true_eq]; omega) | (simp; omega)
    subst e1
    by_cases e2 : b = b'
    rotate_left
    · have n1 : ((b : Int) == (b' : Int)) = false := by rw [beq_eq_false_iff_ne]; omega
      have z0 : x1 ≠ 0 := fun h0 => e2 (HT.out.1.1 h0).2.2.1
      have z1 : (x1 == 0) = false := beq_eq_false_iff_ne.2 z0
      go_wp2_with fail
      all_goals
        go_ret
        refine ⟨congrArg (fun b => Ending.returned (Value.bool b)) ?_, hz⟩
        have h2 := HT.out.2
        unfold Tr at h2
        first | rfl | (exfalso; omega) | (rw [Bool.or_eq_true, decide_eq_true_eq, decide_eq_true_eq]; omega) | (rw [decide_eq_true_eq]; omega) | (simp; omega)
    subst e2
    by_cases e3 : p = p'
    rotate_left
    · have n1 : ((p : Int) == (p' : Int)) = false := by rw [beq_eq_false_iff_ne]; omega
      have z0 : x1 ≠ 0 := fun h0 => e3 (HT.out.1.1 h0).2.2.2.1
      have z1 : (x1 == 0) = false := beq_eq_false_iff_ne.2 z0
      go_wp2_with fail
      all_goals
        go_ret
        refine ⟨congrArg (fun b => Ending.returned (Value.bool b)) ?_, hz⟩
        have h2 := HT.out.2
        unfold Tr at h2
        first | rfl | (exfalso; omega) | (rw [Bool.or_eq_true, decide_eq_true_eq, decide_eq_true_eq]; omega) | (rw [decide_eq_true_eq]; omega) | (simp; omega)
    subst e3
    by_cases e4 : q = q'
    rotate_left
    · have n1 : ((q : Int) == (q' : Int)) = false := by rw [beq_eq_false_iff_ne]; omega
      have z0 : x1 ≠ 0 := fun h0 => e4 (HT.out.1.1 h0).2.2.2.2
      have z1 : (x1 == 0) = false := beq_eq_false_iff_ne.2 z0
      go_wp2_with fail
      all_goals
        go_ret
        refine ⟨congrArg (fun b => Ending.returned (Value.bool b)) ?_, hz⟩
        have h2 := HT.out.2
        unfold Tr at h2
        first | rfl | (exfalso; omega) | (rw [Bool.or_eq_true, decide_eq_true_eq, decide_eq_true_eq]; omega) | (rw [decide_eq_true_eq]; omega) | (simp; omega)
    subst e4
    obtain rfl : x1 = 0 := HT.out.1.2 ⟨rfl, rfl, rfl, rfl, rfl⟩
    go_wp2_with fail
    all_goals
      go_ret
      refine ⟨congrArg (fun b => Ending.returned (Value.bool b)) ?_, hz⟩
      have h2 := HT.out.2
      unfold Tr at h2
      first | rfl | (exfalso; omega) | (rw [Bool.or_eq_true, decide_eq_true_eq, decide_eq_true_eq]; omega) | (rw [decide_eq_true_eq]; omega) | (simp; omega)
  have hT : ∀ W', Calls Tryd.prog 7 #[.agg #[.int .u8 k, .int .u32 b, .int .u32 a, .int .u16 q, .int .u16 p]] W' fun e w'' => e = .returned (.agg #[.int .u8 k, .int .u32 a, .int .u32 b, .int .u16 p, .int .u16 q]) ∧ Fr [] W' w'' := fun W' => turn_any k b a q p W'
  clear h1 H H' H''
  refine wp_region_xt (by kernel_rfl) (by kernel_rfl) ?_
  by_cases hab : a = b
  · subst hab
    by_cases hpq : p = q
    · subst hpq
      repeat (go_big_quiet_step ((go_at_call 7; exact Calls.xt (fun W' _ => hT W') _)))
      refine wpQuiet_nil ?_
      rintro w7 ⟨y, rfl⟩
      have hy := hF.trans (xt_fr y)
      have B1 := A1.fr (xt_fr y) (by simp)
      have B2 := A2.fr (xt_fr y) (by simp)
      have B3 := A3.fr (xt_fr y) (by simp)
      clear xa0 xa1 xa2 xa3 xa4 xt0 xt1 xt2 xt3 xt4
      go_wp2_with fail
      exact rest _ _ _ _ _ _ _ _ _ _ _ _ _ _ _ _ _ _ _ _ _ _ _ _ _ _ _ _ _ _ _ _ _ _ _ _ _ _ _ _ _ _ _ _ _ _ hy B1 B2 B3
    · have m1 : ((p : Int) == (q : Int)) = false := by rw [beq_eq_false_iff_ne]; omega
      have m2 : ((q : Int) == (p : Int)) = false := by rw [beq_eq_false_iff_ne]; omega
      repeat (go_big_quiet_step ((go_at_call 7; exact Calls.xt (fun W' _ => hT W') _)))
      refine wpQuiet_nil ?_
      rintro w7 ⟨y, rfl⟩
      have hy := hF.trans (xt_fr y)
      have B1 := A1.fr (xt_fr y) (by simp)
      have B2 := A2.fr (xt_fr y) (by simp)
      have B3 := A3.fr (xt_fr y) (by simp)
      clear xa0 xa1 xa2 xa3 xa4 xt0 xt1 xt2 xt3 xt4
      go_wp2_with fail
      exact rest _ _ _ _ _ _ _ _ _ _ _ _ _ _ _ _ _ _ _ _ _ _ _ _ _ _ _ _ _ _ _ _ _ _ _ _ _ _ _ _ _ _ _ _ _ _ hy B1 B2 B3
  · have n1 : ((a : Int) == (b : Int)) = false := by rw [beq_eq_false_iff_ne]; omega
    have n2 : ((b : Int) == (a : Int)) = false := by rw [beq_eq_false_iff_ne]; omega
    by_cases hpq : p = q
    · subst hpq
      repeat (go_big_quiet_step ((go_at_call 7; exact Calls.xt (fun W' _ => hT W') _)))
      refine wpQuiet_nil ?_
      rintro w7 ⟨y, rfl⟩
      have hy := hF.trans (xt_fr y)
      have B1 := A1.fr (xt_fr y) (by simp)
      have B2 := A2.fr (xt_fr y) (by simp)
      have B3 := A3.fr (xt_fr y) (by simp)
      clear xa0 xa1 xa2 xa3 xa4 xt0 xt1 xt2 xt3 xt4
      go_wp2_with fail
      exact rest _ _ _ _ _ _ _ _ _ _ _ _ _ _ _ _ _ _ _ _ _ _ _ _ _ _ _ _ _ _ _ _ _ _ _ _ _ _ _ _ _ _ _ _ _ _ hy B1 B2 B3
    · have m1 : ((p : Int) == (q : Int)) = false := by rw [beq_eq_false_iff_ne]; omega
      have m2 : ((q : Int) == (p : Int)) = false := by rw [beq_eq_false_iff_ne]; omega
      repeat (go_big_quiet_step ((go_at_call 7; exact Calls.xt (fun W' _ => hT W') _)))
      refine wpQuiet_nil ?_
      rintro w7 ⟨y, rfl⟩
      have hy := hF.trans (xt_fr y)
      have B1 := A1.fr (xt_fr y) (by simp)
      have B2 := A2.fr (xt_fr y) (by simp)
      have B3 := A3.fr (xt_fr y) (by simp)
      clear xa0 xa1 xa2 xa3 xa4 xt0 xt1 xt2 xt3 xt4
      go_wp2_with fail
      exact rest _ _ _ _ _ _ _ _ _ _ _ _ _ _ _ _ _ _ _ _ _ _ _ _ _ _ _ _ _ _ _ _ _ _ _ _ _ _ _ _ _ _ _ _ _ _ hy B1 B2 B3
end Go.Proofs.YticopkegbiemjabDoor
