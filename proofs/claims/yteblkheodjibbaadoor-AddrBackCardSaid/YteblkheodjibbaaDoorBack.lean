/- AddrBack: what is written is read back. -/
import Derived.Test.YteblkheodjibbaaDoorAwk
import Derived.Test.YteblkheodjibbaaDoorRdk
import Derived.Test.YteblkheodjibbaaDoorEqs
import Derived.Test.YteblkheodjibbaaDoorCov
import Derived.Sort.AtCall
import Derived.Deep.DeepCutAuto
namespace Go.Proofs.YteblkheodjibbaaDoor
open Go.RowKit
set_option linter.unusedVariables false
set_option maxRecDepth 100000

theorem dec_len256 {n : Nat} (h : n < 256) : (dec n).length ≤ 3 := dec_len3 h
theorem read_back (a : Nat) (ha : a < 4294967296) (s : ByteArray) (hs : s.data.toList = atext a) (W : World) (hV : VV W) : Calls Tryd.prog 6 #[.string s] W fun e w' => e = .returned (.tuple #[.int .u32 a, .int .i64 0]) ∧ Fr [] W w' := by
  refine (read_any s (by rw [size_of, hs]; have := atext_len ha; omega) W hV).mono ?_
  rintro e w' ⟨hF, ⟨b, hb, h, rfl⟩ | ⟨h, _⟩⟩
  · have : a = b := atext_inj ha hb (hs.symm.trans h)
    subst this
    exact ⟨rfl, hF⟩
  · exact absurd hs (h a ha)
theorem readP_back (a n : Nat) (ha : a < 4294967296) (hn : n < 256) (hp : PR a n) (s : ByteArray) (hs : s.data.toList = ptext a n) (W : World) (hV : VV W) : Calls Tryd.prog 10 #[.string s] W fun e w' => e = .returned (.tuple #[.agg #[.int .u32 a, .int .u8 n], .int .i64 0]) ∧ Fr [] W w' := by
  refine (readPrefix_any s (by rw [size_of, hs]; have := atext_len ha; have := dec_len3 hn; unfold ptext; simp only [List.length_append, List.length_cons]; omega) W hV).mono ?_
  rintro e w' ⟨hF, ⟨b, m, hb, hm, hq, h, rfl⟩ | ⟨h, _⟩⟩
  · obtain ⟨rfl, rfl⟩ := ptext_inj ha hb hn hm (hs.symm.trans h)
    exact ⟨rfl, hF⟩
  · exact absurd hs (h a n ha hn hp)
theorem readR_back (a b : Nat) (hab : a ≤ b) (hb : b < 65536) (s : ByteArray) (hs : s.data.toList = rtext a b) (W : World) (hV : VV W) : Calls Tryd.prog 14 #[.string s] W fun e w' => e = .returned (.tuple #[.agg #[.int .u16 a, .int .u16 b], .int .i64 0]) ∧ Fr [] W w' := by
  refine (readRange_any s (by
    rw [size_of, hs]
    have h1 := dec_len5 (n := a) (by omega)
    have h2 := dec_len5 hb
    unfold rtext
    split
    · simp
    · split
      · omega
      · simp only [List.length_append, List.length_cons]; omega) W hV).mono ?_
  rintro e w' ⟨hF, ⟨c, d, hcd, hd, h, rfl⟩ | ⟨h, _⟩⟩
  · obtain ⟨rfl, rfl⟩ := rtext_inj (by omega) hb (by omega) hd (hs.symm.trans h)
    exact ⟨rfl, hF⟩
  · exact absurd hs (h a b hab hb)
theorem readK_back (k a b p q : Nat) (H : KOK k a b p q) (s : ByteArray) (hs : s.data.toList = ktext k a p b q) (W : World) (hV : VV W) : Calls Tryd.prog 11 #[.string s] W fun e w' => e = .returned (.tuple #[.agg #[.int .u8 k, .int .u32 a, .int .u32 b, .int .u16 p, .int .u16 q], .int .i64 0]) ∧ Fr [] W w' := by
  refine (readKey_any s (by
    rw [size_of, hs]
    have h1 := dec_len3 H.k
    have h2 := etext_len H.a H.p
    have h3 := etext_len H.b H.q
    unfold ktext
    simp only [List.length_append, List.length_cons]
    omega) W hV).mono ?_
  rintro e w' ⟨hF, ⟨k', a', b', p', q', H', h, rfl⟩ | ⟨h, _⟩⟩
  · obtain ⟨rfl, rfl, rfl, rfl, rfl⟩ := ktext_inj H.k H.a H.p H.b H.q H'.k H'.a H'.p H'.b H'.q (hs.symm.trans h)
    exact ⟨rfl, hF⟩
  · exact absurd hs (h k a b p q H)
theorem toList_mk (l : List UInt8) : (⟨l.toArray⟩ : ByteArray).toList = l := by rw [ByteArray.toList_eq]
theorem mk_inj {l m : List UInt8} : ((⟨l.toArray⟩ : ByteArray).toList == (⟨m.toArray⟩ : ByteArray).toList) = decide (l = m) := by
  rw [toList_mk, toList_mk, Bool.eq_iff_iff]
  simp

structure RC (w : World) (g : Nat) (a n : Int) : Prop where
  c0 : w.cell? ⟨g, 0, none⟩ = some (.int .u16 a)
  c1 : w.cell? ⟨g, 1, none⟩ = some (.int .u16 n)
  f0 : w.frozen? ⟨g, 0, none⟩ = false
  f1 : w.frozen? ⟨g, 1, none⟩ = false
theorem RC.fr {S : List Nat} {w w' : World} {g : Nat} {a n : Int} (h : RC w g a n) (hF : Fr S w w') (hg : g ∉ S) : RC w' g a n :=
  ⟨hF.cell h.c0 hg, hF.cell h.c1 hg, fr_fz hF (World.block_lt_of_cell? w _ h.c0) hg h.f0, fr_fz hF (World.block_lt_of_cell? w _ h.c0) hg h.f1⟩
theorem rc_new (w : World) (a n : Int) : RC (w.alloc (.cells #[.int .u16 a, .int .u16 n] 25)) w.heap.size a n :=
  ⟨new_cell _ _ _ 0 _ rfl, new_cell _ _ _ 1 _ rfl, blk_fz (blk_new w _ _), blk_fz (blk_new w _ _)⟩
theorem RC.swap {w : World} {g : Nat} {a n : Int} (h : RC w g a n) (x y : Int) : RC ((w.setCell ⟨g, 0, none⟩ (.int .u16 x)).setCell ⟨g, 1, none⟩ (.int .u16 y)) g x y := by
  refine ⟨?_, ?_, ?_, ?_⟩
  · rw [World.cell?_setCell_other _ _ _ _ (by simp)]
    exact World.cell?_setCell_same _ _ _ h.c0
  · refine World.cell?_setCell_same _ _ _ (?_ : _ = some (.int .u16 n))
    rw [World.cell?_setCell_other _ _ _ _ (by simp)]
    exact h.c1
  · rw [World.frozen?_setCell, World.frozen?_setCell]; exact h.f0
  · rw [World.frozen?_setCell, World.frozen?_setCell]; exact h.f1
theorem RC.other {w : World} {g g' : Nat} {a n : Int} (h : RC w g a n) (hg : g ≠ g') (x y : Value) : RC ((w.setCell ⟨g', 0, none⟩ x).setCell ⟨g', 1, none⟩ y) g a n :=
  h.fr (S := [g']) (((Fr.refl _ _).setCell (.inl (by simp)) _).setCell (.inl (by simp)) _) (by simpa using hg)

set_option maxHeartbeats 8000000 in
theorem back_any (a b m n r1 r2 q1 q2 k a' b' c d k2 a2 b2 c2 d2 : Nat) (ha : a < 4294967296) (hb : b < 4294967296) (hm : m < 256) (hn : n < 256) (hr1 : r1 < 65536) (hr2 : r2 < 65536) (hq1 : q1 < 65536) (hq2 : q2 < 65536)
    (J : KOK k a' b' c d) (K : KOK k2 a2 b2 c2 d2) (w : World) (hV : VV w) :
    Calls Tryd.prog 3 #[.int .u32 a, .int .u32 b, .int .u8 m, .int .u8 n, .agg #[.int .u16 r1, .int .u16 r2], .agg #[.int .u16 q1, .int .u16 q2], KV k a' b' c d, KV k2 a2 b2 c2 d2] w fun e w' => e = .returned (.bool true) ∧ Fr [] w w' := by
  obtain ⟨l, hl⟩ : ∃ l : Nat, l = m % 33 := ⟨_, rfl⟩
  obtain ⟨l', hl'⟩ : ∃ l : Nat, l = n % 33 := ⟨_, rfl⟩
  have hk1 : (m : Int) % 33 = (l : Int) := by omega
  have hl1 : (n : Int) % 33 = (l' : Int) := by omega
  have hk2 : l ≤ 32 := by omega
  have hl2 : l' ≤ 32 := by omega
  clear hl hl'
  obtain ⟨p, hp⟩ : ∃ p, p = pcut a l := ⟨_, rfl⟩
  obtain ⟨q, hq⟩ : ∃ q, q = pcut b l' := ⟨_, rfl⟩
  have hpl : p < 4294967296 := by rw [hp]; exact Nat.lt_of_le_of_lt (pcut_le a l) ha
  have hql : q < 4294967296 := by rw [hq]; exact Nat.lt_of_le_of_lt (pcut_le b l') hb
  have hC1 : ∀ W, Calls Tryd.prog 8 #[.int .u32 a, .int .u8 l] W fun e w' => e = .returned (.tuple #[.agg #[.int .u32 p, .int .u8 l], .int .i64 0]) ∧ Fr [] W w' := fun W => by rw [hp]; exact cut_yes a l ha hk2 W
  have hC2 : ∀ W, Calls Tryd.prog 8 #[.int .u32 b, .int .u8 l'] W fun e w' => e = .returned (.tuple #[.agg #[.int .u32 q, .int .u8 l'], .int .i64 0]) ∧ Fr [] W w' := fun W => by rw [hq]; exact cut_yes b l' hb hl2 W
  have hPp : PR p l := by rw [hp]; exact pr_cut a hk2
  have hPq : PR q l' := by rw [hq]; exact pr_cut b hl2
  clear hp hq
  obtain ⟨TA, hTA⟩ : ∃ t : ByteArray, t = ⟨(atext a).toArray⟩ := ⟨_, rfl⟩
  obtain ⟨TB, hTB⟩ : ∃ t : ByteArray, t = ⟨(atext b).toArray⟩ := ⟨_, rfl⟩
  obtain ⟨TP, hTP⟩ : ∃ t : ByteArray, t = ⟨(ptext p l).toArray⟩ := ⟨_, rfl⟩
  obtain ⟨TQ, hTQ⟩ : ∃ t : ByteArray, t = ⟨(ptext q l').toArray⟩ := ⟨_, rfl⟩
  obtain ⟨TJ, hTJ⟩ : ∃ t : ByteArray, t = ⟨(ktext k a' c b' d).toArray⟩ := ⟨_, rfl⟩
  obtain ⟨TK, hTK⟩ : ∃ t : ByteArray, t = ⟨(ktext k2 a2 c2 b2 d2).toArray⟩ := ⟨_, rfl⟩
  have xA : ∀ W, VV W → Calls Tryd.prog 7 #[.int .u32 a] W fun e w' => e = .returned (.string TA) ∧ Fr [] W w' := fun W hV => by rw [hTA]; exact text_any a ha W hV
  have xB : ∀ W, VV W → Calls Tryd.prog 7 #[.int .u32 b] W fun e w' => e = .returned (.string TB) ∧ Fr [] W w' := fun W hV => by rw [hTB]; exact text_any b hb W hV
  have xP : ∀ W, VV W → Calls Tryd.prog 9 #[.agg #[.int .u32 p, .int .u8 l]] W fun e w' => e = .returned (.tuple #[.string TP, .int .i64 0]) ∧ Fr [] W w' := fun W hV => by rw [hTP]; exact ptext_yes p l hpl (by omega) hPp W hV
  have xQ : ∀ W, VV W → Calls Tryd.prog 9 #[.agg #[.int .u32 q, .int .u8 l']] W fun e w' => e = .returned (.tuple #[.string TQ, .int .i64 0]) ∧ Fr [] W w' := fun W hV => by rw [hTQ]; exact ptext_yes q l' hql (by omega) hPq W hV
  have xJ : ∀ W, VV W → Calls Tryd.prog 12 #[.agg #[.int .u8 k, .int .u32 a', .int .u32 b', .int .u16 c, .int .u16 d]] W fun e w' => e = .returned (.string TJ) ∧ Fr [] W w' := fun W hV => by rw [hTJ]; exact keyText_any k a' b' c d J W hV
  have xK : ∀ W, VV W → Calls Tryd.prog 12 #[.agg #[.int .u8 k2, .int .u32 a2, .int .u32 b2, .int .u16 c2, .int .u16 d2]] W fun e w' => e = .returned (.string TK) ∧ Fr [] W w' := fun W hV => by rw [hTK]; exact keyText_any k2 a2 b2 c2 d2 K W hV
  have yA : ∀ W, VV W → Calls Tryd.prog 6 #[.string TA] W fun e w' => e = .returned (.tuple #[.int .u32 a, .int .i64 0]) ∧ Fr [] W w' := fun W hV => read_back a ha TA (by rw [hTA]) W hV
  have yP : ∀ W, VV W → Calls Tryd.prog 10 #[.string TP] W fun e w' => e = .returned (.tuple #[.agg #[.int .u32 p, .int .u8 l], .int .i64 0]) ∧ Fr [] W w' := fun W hV => readP_back p l hpl (by omega) hPp TP (by rw [hTP]) W hV
  have yJ : ∀ W, VV W → Calls Tryd.prog 11 #[.string TJ] W fun e w' => e = .returned (.tuple #[.agg #[.int .u8 k, .int .u32 a', .int .u32 b', .int .u16 c, .int .u16 d], .int .i64 0]) ∧ Fr [] W w' := fun W hV => readK_back k a' b' c d J TJ (by rw [hTJ]) W hV
  have eA : (TA.toList == TB.toList) = ((a : Int) == (b : Int)) := by
    rw [hTA, hTB, mk_inj, Bool.eq_iff_iff, decide_eq_true_eq, beq_iff_eq]
    exact ⟨fun h => by rw [atext_inj ha hb h], fun h => by rw [show a = b by omega]⟩
  have eP : (TP.toList == TQ.toList) = (((p : Int) == (q : Int)) && ((l : Int) == (l' : Int))) := by
    rw [hTP, hTQ, mk_inj, Bool.eq_iff_iff, decide_eq_true_eq, Bool.and_eq_true, beq_iff_eq, beq_iff_eq]
    exact ⟨fun h => by obtain ⟨h1, h2⟩ := ptext_inj hpl hql (by omega) (by omega) h; omega, fun h => by rw [show p = q by omega, show l = l' by omega]⟩
  have eJ : (TJ.toList == TK.toList) = (((k : Int) == (k2 : Int)) && (((a' : Int) == (a2 : Int)) && (((b' : Int) == (b2 : Int)) && (((c : Int) == (c2 : Int)) && ((d : Int) == (d2 : Int)))))) := by
    rw [hTJ, hTK, mk_inj, Bool.eq_iff_iff, decide_eq_true_eq, Bool.and_eq_true, Bool.and_eq_true, Bool.and_eq_true, Bool.and_eq_true, beq_iff_eq, beq_iff_eq, beq_iff_eq, beq_iff_eq, beq_iff_eq]
    constructor
    · intro h
      obtain ⟨h1, h2, h3, h4, h5⟩ := ktext_inj J.k J.a J.p J.b J.q K.k K.a K.p K.b K.q h
      omega
    · rintro ⟨h1, h2, h3, h4, h5⟩
      rw [show k = k2 by omega, show a' = a2 by omega, show b' = b2 by omega, show c = c2 by omega, show d = d2 by omega]
  clear hTA hTB hTP hTQ hTJ hTK
  have HA := Lib.hid eA
  have HP := Lib.hid eP
  have HJ := Lib.hid eJ
  clear eA eP eJ
  have A1 : RC (w.alloc (.cells #[.int .u16 r1, .int .u16 r2] 25)) w.heap.size r1 r2 := rc_new w r1 r2
  have hs1 : (w.alloc (.cells #[.int .u16 r1, .int .u16 r2] 25)).heap.size = w.heap.size + 1 := by simp
  have A2 : RC ((w.alloc (.cells #[.int .u16 r1, .int .u16 r2] 25)).alloc (.cells #[.int .u16 q1, .int .u16 q2] 25)) (w.heap.size + 1) q1 q2 := by rw [← hs1]; exact rc_new _ q1 q2
  have hs2 : ((w.alloc (.cells #[.int .u16 r1, .int .u16 r2] 25)).alloc (.cells #[.int .u16 q1, .int .u16 q2] 25)).heap.size = w.heap.size + 1 + 1 := by simp
  have A3 : KC (((w.alloc (.cells #[.int .u16 r1, .int .u16 r2] 25)).alloc (.cells #[.int .u16 q1, .int .u16 q2] 25)).alloc (.cells #[.int .u8 k, .int .u32 a', .int .u32 b', .int .u16 c, .int .u16 d] 27)) (w.heap.size + 1 + 1) k a' b' c d := by rw [← hs2]; exact kc_new _ _ _ _ _ _
  have hs3 : (((w.alloc (.cells #[.int .u16 r1, .int .u16 r2] 25)).alloc (.cells #[.int .u16 q1, .int .u16 q2] 25)).alloc (.cells #[.int .u8 k, .int .u32 a', .int .u32 b', .int .u16 c, .int .u16 d] 27)).heap.size = w.heap.size + 1 + 1 + 1 := by simp
  have A4 : KC ((((w.alloc (.cells #[.int .u16 r1, .int .u16 r2] 25)).alloc (.cells #[.int .u16 q1, .int .u16 q2] 25)).alloc (.cells #[.int .u8 k, .int .u32 a', .int .u32 b', .int .u16 c, .int .u16 d] 27)).alloc (.cells #[.int .u8 k2, .int .u32 a2, .int .u32 b2, .int .u16 c2, .int .u16 d2] 27)) (w.heap.size + 1 + 1 + 1) k2 a2 b2 c2 d2 := by rw [← hs3]; exact kc_new _ _ _ _ _ _
  replace A1 := ((A1.fr ((Fr.refl [] _).alloc (.cells #[.int .u16 q1, .int .u16 q2] 25)) (by simp)).fr ((Fr.refl [] _).alloc (.cells #[.int .u8 k, .int .u32 a', .int .u32 b', .int .u16 c, .int .u16 d] 27)) (by simp)).fr ((Fr.refl [] _).alloc (.cells #[.int .u8 k2, .int .u32 a2, .int .u32 b2, .int .u16 c2, .int .u16 d2] 27)) (by simp)
  replace A2 := (A2.fr ((Fr.refl [] _).alloc (.cells #[.int .u8 k, .int .u32 a', .int .u32 b', .int .u16 c, .int .u16 d] 27)) (by simp)).fr ((Fr.refl [] _).alloc (.cells #[.int .u8 k2, .int .u32 a2, .int .u32 b2, .int .u16 c2, .int .u16 d2] 27)) (by simp)
  replace A3 := A3.fr ((Fr.refl [] _).alloc (.cells #[.int .u8 k2, .int .u32 a2, .int .u32 b2, .int .u16 c2, .int .u16 d2] 27)) (by simp)
  have hF : Fr [] w ((((w.alloc (.cells #[.int .u16 r1, .int .u16 r2] 25)).alloc (.cells #[.int .u16 q1, .int .u16 q2] 25)).alloc (.cells #[.int .u8 k, .int .u32 a', .int .u32 b', .int .u16 c, .int .u16 d] 27)).alloc (.cells #[.int .u8 k2, .int .u32 a2, .int .u32 b2, .int .u16 c2, .int .u16 d2] 27)) := ((((Fr.refl [] w).alloc _).alloc _).alloc _).alloc _
  have n0 : w.heap.size ≤ w.heap.size := Nat.le_refl _
  have n1 : w.heap.size ≤ w.heap.size + 1 := by omega
  clear hs1 hs2 hs3
  unfold KV
  go_enter Tryd.func3, Tryd.ntmps3
  go_wp2_with fail
  generalize (((w.alloc (.cells #[.int .u16 r1, .int .u16 r2] 25)).alloc (.cells #[.int .u16 q1, .int .u16 q2] 25)).alloc (.cells #[.int .u8 k, .int .u32 a', .int .u32 b', .int .u16 c, .int .u16 d] 27)).alloc (.cells #[.int .u8 k2, .int .u32 a2, .int .u32 b2, .int .u16 c2, .int .u16 d2] 27) = w4 at A1 A2 A3 A4 hF ⊢
  generalize hg4 : w.heap.size + 1 + 1 + 1 = g4 at A4 ⊢
  generalize hg3 : w.heap.size + 1 + 1 = g3 at A3 ⊢
  generalize hg2 : w.heap.size + 1 = g2 at A2 n1 ⊢
  generalize hg1 : w.heap.size = g1 at A1 n0 ⊢
  have hne : g1 ≠ g2 := by omega
  have hg1s := hg1
  clear hg1 hg2 hg3 hg4
  refine (awake_any _ (hV.fr hF)).mono ?_
  rintro e w' ⟨rfl, hG⟩
  replace hF := hF.trans hG
  have hV1 := hV.fr hF
  replace A1 := A1.fr hG (by simp)
  replace A2 := A2.fr hG (by simp)
  replace A3 := A3.fr hG (by simp)
  replace A4 := A4.fr hG (by simp)
  clear hG
  go_wp2_with fail
  refine (xA _ hV1).mono ?_
  rintro e w' ⟨rfl, hG⟩
  replace hF := hF.trans hG
  have hV1 := hV.fr hF
  replace A1 := A1.fr hG (by simp)
  replace A2 := A2.fr hG (by simp)
  replace A3 := A3.fr hG (by simp)
  replace A4 := A4.fr hG (by simp)
  clear hG
  go_wp2_with fail
  refine (yA _ hV1).mono ?_
  rintro e w' ⟨rfl, hG⟩
  replace hF := hF.trans hG
  have hV1 := hV.fr hF
  replace A1 := A1.fr hG (by simp)
  replace A2 := A2.fr hG (by simp)
  replace A3 := A3.fr hG (by simp)
  replace A4 := A4.fr hG (by simp)
  clear hG
  go_wp2_with fail
  refine (hC1 _).mono ?_
  rintro e w' ⟨rfl, hG⟩
  replace hF := hF.trans hG
  have hV1 := hV.fr hF
  replace A1 := A1.fr hG (by simp)
  replace A2 := A2.fr hG (by simp)
  replace A3 := A3.fr hG (by simp)
  replace A4 := A4.fr hG (by simp)
  clear hG
  have B1 := pc_new w' p l 34
  replace A1 := A1.fr ((Fr.refl [] w').alloc (.cells #[.int .u32 p, .int .u8 l] 34)) (by simp)
  replace A2 := A2.fr ((Fr.refl [] w').alloc (.cells #[.int .u32 p, .int .u8 l] 34)) (by simp)
  replace A3 := A3.fr ((Fr.refl [] w').alloc (.cells #[.int .u32 p, .int .u8 l] 34)) (by simp)
  replace A4 := A4.fr ((Fr.refl [] w').alloc (.cells #[.int .u32 p, .int .u8 l] 34)) (by simp)
  replace hF := hF.alloc (.cells #[.int .u32 p, .int .u8 l] 34)
  replace hV1 := hV.fr hF
  go_wp2_with fail
  generalize w'.alloc (.cells #[.int .u32 p, .int .u8 l] 34) = v1 at hF hV1 A1 A2 A3 A4 B1 ⊢
  generalize w'.heap.size = h1 at B1 ⊢
  refine (hC2 _).mono ?_
  rintro e w' ⟨rfl, hG⟩
  replace hF := hF.trans hG
  have hV1 := hV.fr hF
  replace A1 := A1.fr hG (by simp)
  replace A2 := A2.fr hG (by simp)
  replace A3 := A3.fr hG (by simp)
  replace A4 := A4.fr hG (by simp)
  replace B1 := B1.fr hG (by simp)
  clear hG
  have B2 := pc_new w' q l' 34
  replace A1 := A1.fr ((Fr.refl [] w').alloc (.cells #[.int .u32 q, .int .u8 l'] 34)) (by simp)
  replace A2 := A2.fr ((Fr.refl [] w').alloc (.cells #[.int .u32 q, .int .u8 l'] 34)) (by simp)
  replace A3 := A3.fr ((Fr.refl [] w').alloc (.cells #[.int .u32 q, .int .u8 l'] 34)) (by simp)
  replace A4 := A4.fr ((Fr.refl [] w').alloc (.cells #[.int .u32 q, .int .u8 l'] 34)) (by simp)
  replace B1 := B1.fr ((Fr.refl [] w').alloc (.cells #[.int .u32 q, .int .u8 l'] 34)) (by simp)
  replace hF := hF.alloc (.cells #[.int .u32 q, .int .u8 l'] 34)
  replace hV1 := hV.fr hF
  have p0 := B1.c0
  have p1 := B1.c1
  go_wp2_with fail
  clear p0 p1
  generalize w'.alloc (.cells #[.int .u32 q, .int .u8 l'] 34) = v2 at hF hV1 A1 A2 A3 A4 B1 B2 ⊢
  generalize w'.heap.size = h2 at B2 ⊢
  refine (xP _ hV1).mono ?_
  rintro e w' ⟨rfl, hG⟩
  replace hF := hF.trans hG
  have hV1 := hV.fr hF
  replace A1 := A1.fr hG (by simp)
  replace A2 := A2.fr hG (by simp)
  replace A3 := A3.fr hG (by simp)
  replace A4 := A4.fr hG (by simp)
  replace B1 := B1.fr hG (by simp)
  replace B2 := B2.fr hG (by simp)
  clear hG
  have p0 := B2.c0
  have p1 := B2.c1
  go_wp2_with fail
  clear p0 p1
  refine (xQ _ hV1).mono ?_
  rintro e w' ⟨rfl, hG⟩
  replace hF := hF.trans hG
  have hV1 := hV.fr hF
  replace A1 := A1.fr hG (by simp)
  replace A2 := A2.fr hG (by simp)
  replace A3 := A3.fr hG (by simp)
  replace A4 := A4.fr hG (by simp)
  replace B1 := B1.fr hG (by simp)
  replace B2 := B2.fr hG (by simp)
  clear hG
  go_wp2_with fail
  refine (yP _ hV1).mono ?_
  rintro e w' ⟨rfl, hG⟩
  replace hF := hF.trans hG
  have hV1 := hV.fr hF
  replace A1 := A1.fr hG (by simp)
  replace A2 := A2.fr hG (by simp)
  replace A3 := A3.fr hG (by simp)
  replace A4 := A4.fr hG (by simp)
  replace B1 := B1.fr hG (by simp)
  replace B2 := B2.fr hG (by simp)
  clear hG
  have B3 := pc_new w' p l 34
  replace A1 := A1.fr ((Fr.refl [] w').alloc (.cells #[.int .u32 p, .int .u8 l] 34)) (by simp)
  replace A2 := A2.fr ((Fr.refl [] w').alloc (.cells #[.int .u32 p, .int .u8 l] 34)) (by simp)
  replace A3 := A3.fr ((Fr.refl [] w').alloc (.cells #[.int .u32 p, .int .u8 l] 34)) (by simp)
  replace A4 := A4.fr ((Fr.refl [] w').alloc (.cells #[.int .u32 p, .int .u8 l] 34)) (by simp)
  replace B1 := B1.fr ((Fr.refl [] w').alloc (.cells #[.int .u32 p, .int .u8 l] 34)) (by simp)
  replace B2 := B2.fr ((Fr.refl [] w').alloc (.cells #[.int .u32 p, .int .u8 l] 34)) (by simp)
  replace hF := hF.alloc (.cells #[.int .u32 p, .int .u8 l] 34)
  replace hV1 := hV.fr hF
  have p0 := A3.c0
  have p1 := A3.c1
  have p2 := A3.c2
  have p3 := A3.c3
  have p4 := A3.c4
  go_wp2_with fail
  clear p0 p1 p2 p3 p4
  generalize w'.alloc (.cells #[.int .u32 p, .int .u8 l] 34) = v3 at hF hV1 A1 A2 A3 A4 B1 B2 B3 ⊢
  generalize w'.heap.size = h3 at B3 ⊢
  refine (xJ _ hV1).mono ?_
  rintro e w' ⟨rfl, hG⟩
  replace hF := hF.trans hG
  have hV1 := hV.fr hF
  replace A1 := A1.fr hG (by simp)
  replace A2 := A2.fr hG (by simp)
  replace A3 := A3.fr hG (by simp)
  replace A4 := A4.fr hG (by simp)
  replace B1 := B1.fr hG (by simp)
  replace B2 := B2.fr hG (by simp)
  replace B3 := B3.fr hG (by simp)
  clear hG
  go_wp2_with fail
  refine (yJ _ hV1).mono ?_
  rintro e w' ⟨rfl, hG⟩
  replace hF := hF.trans hG
  have hV1 := hV.fr hF
  replace A1 := A1.fr hG (by simp)
  replace A2 := A2.fr hG (by simp)
  replace A3 := A3.fr hG (by simp)
  replace A4 := A4.fr hG (by simp)
  replace B1 := B1.fr hG (by simp)
  replace B2 := B2.fr hG (by simp)
  replace B3 := B3.fr hG (by simp)
  clear hG
  have B4 := kc_new w' k a' b' c d
  replace A1 := A1.fr ((Fr.refl [] w').alloc (.cells #[.int .u8 k, .int .u32 a', .int .u32 b', .int .u16 c, .int .u16 d] 27)) (by simp)
  replace A2 := A2.fr ((Fr.refl [] w').alloc (.cells #[.int .u8 k, .int .u32 a', .int .u32 b', .int .u16 c, .int .u16 d] 27)) (by simp)
  replace A3 := A3.fr ((Fr.refl [] w').alloc (.cells #[.int .u8 k, .int .u32 a', .int .u32 b', .int .u16 c, .int .u16 d] 27)) (by simp)
  replace A4 := A4.fr ((Fr.refl [] w').alloc (.cells #[.int .u8 k, .int .u32 a', .int .u32 b', .int .u16 c, .int .u16 d] 27)) (by simp)
  replace B1 := B1.fr ((Fr.refl [] w').alloc (.cells #[.int .u8 k, .int .u32 a', .int .u32 b', .int .u16 c, .int .u16 d] 27)) (by simp)
  replace B2 := B2.fr ((Fr.refl [] w').alloc (.cells #[.int .u8 k, .int .u32 a', .int .u32 b', .int .u16 c, .int .u16 d] 27)) (by simp)
  replace B3 := B3.fr ((Fr.refl [] w').alloc (.cells #[.int .u8 k, .int .u32 a', .int .u32 b', .int .u16 c, .int .u16 d] 27)) (by simp)
  replace hF := hF.alloc (.cells #[.int .u8 k, .int .u32 a', .int .u32 b', .int .u16 c, .int .u16 d] 27)
  replace hV1 := hV.fr hF
  go_upto_region 10 with fail
  generalize w'.alloc (.cells #[.int .u8 k, .int .u32 a', .int .u32 b', .int .u16 c, .int .u16 d] 27) = v4 at hF hV1 A1 A2 A3 A4 B1 B2 B3 B4 ⊢
  generalize w'.heap.size = h4 at B4 ⊢
  go_cut [136] (fun s wx => s = .bool false ∧ Fr [] w wx ∧ RC wx g1 r1 r2 ∧ RC wx g2 q1 q2)
  case first =>
    have eA : ((TA.toList == TB.toList) == ((a : Int) == (b : Int))) = true := by rw [HA.out]; exact beq_self_eq_true _
    have eP : ((TP.toList == TQ.toList) == (((p : Int) == (q : Int)) && ((l : Int) == (l' : Int)))) = true := by rw [HP.out]; exact beq_self_eq_true _
    have eJ : ((TJ.toList == TK.toList) == (((k : Int) == (k2 : Int)) && (((a' : Int) == (a2 : Int)) && (((b' : Int) == (b2 : Int)) && (((c : Int) == (c2 : Int)) && ((d : Int) == (d2 : Int))))))) = true := by rw [HJ.out]; exact beq_self_eq_true _
    obtain ⟨zP, hzP⟩ : ∃ z, z = (((p : Int) == (q : Int)) && ((l : Int) == (l' : Int))) := ⟨_, rfl⟩
    obtain ⟨zJ, hzJ⟩ : ∃ z, z = (((k : Int) == (k2 : Int)) && (((a' : Int) == (a2 : Int)) && (((b' : Int) == (b2 : Int)) && (((c : Int) == (c2 : Int)) && ((d : Int) == (d2 : Int)))))) := ⟨_, rfl⟩
    rw [← hzP] at eP
    rw [← hzJ] at eJ
    have rP := fun w => eq_prefix p l q l' w
    have rP2 := fun w => eq_prefix p l p l w
    have rJ := fun w => eq_key k a' b' c d k2 a2 b2 c2 d2 w
    have rJ2 := fun w => eq_key k a' b' c d k a' b' c d w
    rw [← hzP] at rP
    rw [← hzJ] at rJ
    simp only [beq_self_eq_true, Bool.and_self] at rP2 rJ2
    clear hzP hzJ
    have X1 := xt_cell B1.c0
    have X2 := xt_cell B1.c1
    have X3 := xt_cell B2.c0
    have X4 := xt_cell B2.c1
    have X5 := xt_cell B3.c0
    have X6 := xt_cell B3.c1
    have Y0 := xt_cell A3.c0
    have Y1 := xt_cell A3.c1
    have Y2 := xt_cell A3.c2
    have Y3 := xt_cell A3.c3
    have Y4 := xt_cell A3.c4
    have U0 := xt_cell A4.c0
    have U1 := xt_cell A4.c1
    have U2 := xt_cell A4.c2
    have U3 := xt_cell A4.c3
    have U4 := xt_cell A4.c4
    have V0 := xt_cell B4.c0
    have V1 := xt_cell B4.c1
    have V2 := xt_cell B4.c2
    have V3 := xt_cell B4.c3
    have V4 := xt_cell B4.c4
    clear HA HP HJ hC1 hC2 xP xQ yA yP yJ
    refine wp_region_xt (by kernel_rfl) (by kernel_rfl) ?_
    repeat (go_big_quiet_step ((first
      | (go_at_call_has 7 (Value.int IntKind.u32 (a : Int)); exact Calls.xt (fun W' hW' => xA W' (hV1.fr hW')) _)
      | (go_at_call_has 7 (Value.int IntKind.u32 (b : Int)); exact Calls.xt (fun W' hW' => xB W' (hV1.fr hW')) _)
      | (go_at_call_has 12 (Value.int IntKind.u32 (a' : Int)); exact Calls.xt (fun W' hW' => xJ W' (hV1.fr hW')) _)
      | (go_at_call_has 12 (Value.int IntKind.u32 (a2 : Int)); exact Calls.xt (fun W' hW' => xK W' (hV1.fr hW')) _))))
    refine wpQuiet_nil ?_
    rintro v5 ⟨y, rfl⟩
    clear X1 X2 X3 X4 X5 X6 Y0 Y1 Y2 Y3 Y4 U0 U1 U2 U3 U4 V0 V1 V2 V3 V4 rP rP2 rJ rJ2 eA eP eJ
    go_wp2_with fail
    go_meet
    exact ⟨rfl, hF.trans (xt_fr y), A1.fr (xt_fr y) (by simp), A2.fr (xt_fr y) (by simp)⟩
  case rest =>
    obtain ⟨rfl, hF, A1, A2⟩ := hcut
    clear HA HP HJ hC1 hC2 xA xB xP xQ xJ xK yA yP yJ hV1
    obtain ⟨lo, hi, R1, R2, R3⟩ : ∃ lo hi : Nat, lo ≤ hi ∧ hi < 65536 ∧ ((r1 ≤ r2 ∧ lo = r1 ∧ hi = r2) ∨ (r2 < r1 ∧ lo = r2 ∧ hi = r1)) := by
      rcases Nat.lt_or_ge r2 r1 with h | h
      · exact ⟨r2, r1, by omega, hr1, .inr ⟨h, rfl, rfl⟩⟩
      · exact ⟨r1, r2, h, hr2, .inl ⟨h, rfl, rfl⟩⟩
    obtain ⟨lo', hi', Q1, Q2, Q3⟩ : ∃ lo hi : Nat, lo ≤ hi ∧ hi < 65536 ∧ ((q1 ≤ q2 ∧ lo = q1 ∧ hi = q2) ∨ (q2 < q1 ∧ lo = q2 ∧ hi = q1)) := by
      rcases Nat.lt_or_ge q2 q1 with h | h
      · exact ⟨q2, q1, by omega, hq1, .inr ⟨h, rfl, rfl⟩⟩
      · exact ⟨q1, q2, h, hq2, .inl ⟨h, rfl, rfl⟩⟩
    have n2 : w.heap.size ≤ g1 := Nat.le_of_eq hg1s
    have HR3 := Lib.hid R3
    have HQ3 := Lib.hid Q3
    have HN2 := Lib.hid n2
    have HN1 := Lib.hid n1
    have HNE := Lib.hid hne
    clear R3 Q3 n2 n1 hne hg1s n0
    have c0 := A1.c0
    have c1 := A1.c1
    have f0 := A1.f0
    have f1 := A1.f1
    go_upto_if 141 with fail
    go_cut [] (fun wz => Fr [] w wz ∧ RC wz g1 lo hi ∧ RC wz g2 q1 q2)
    case first =>
      rcases HR3.out with ⟨h, rfl, rfl⟩ | ⟨h, rfl, rfl⟩
      · have h1 : ¬ hi < lo := Nat.not_lt.2 h
        go_wp2_with fail
        go_meet
        exact ⟨hF, A1, A2⟩
      · go_wp2_with fail
        go_meet
        exact ⟨(hF.setCell (.inr HN2.out) _).setCell (.inr HN2.out) _, A1.swap _ _, A2.other HNE.out.symm _ _⟩
    case rest =>
      clear c0 c1 f0 f1 hF A1 A2
      obtain ⟨hF, A1, A2⟩ := hcut
      have c0 := A2.c0
      have c1 := A2.c1
      have f0 := A2.f0
      have f1 := A2.f1
      go_upto_if 152 with fail
      go_cut [] (fun wz => Fr [] w wz ∧ RC wz g1 lo hi ∧ RC wz g2 lo' hi')
      case first =>
        rcases HQ3.out with ⟨h, rfl, rfl⟩ | ⟨h, rfl, rfl⟩
        · have h1 : ¬ hi' < lo' := Nat.not_lt.2 h
          go_wp2_with fail
          go_meet
          exact ⟨hF, A1, A2⟩
        · go_wp2_with fail
          go_meet
          exact ⟨(hF.setCell (.inr HN1.out) _).setCell (.inr HN1.out) _, A1.other HNE.out _ _, A2.swap _ _⟩
      case rest =>
        clear c0 c1 f0 f1 hF A1 A2
        obtain ⟨hF, A1, A2⟩ := hcut
        obtain ⟨TR, hTR⟩ : ∃ t : ByteArray, t = ⟨(rtext lo hi).toArray⟩ := ⟨_, rfl⟩
        obtain ⟨TS, hTS⟩ : ∃ t : ByteArray, t = ⟨(rtext lo' hi').toArray⟩ := ⟨_, rfl⟩
        have xR : ∀ W, VV W → Calls Tryd.prog 13 #[.agg #[.int .u16 lo, .int .u16 hi]] W fun e w' => e = .returned (.tuple #[.string TR, .int .i64 0]) ∧ Fr [] W w' := fun W hV => by rw [hTR]; exact rangeText_yes lo hi R1 R2 W hV
        have xS : ∀ W, VV W → Calls Tryd.prog 13 #[.agg #[.int .u16 lo', .int .u16 hi']] W fun e w' => e = .returned (.tuple #[.string TS, .int .i64 0]) ∧ Fr [] W w' := fun W hV => by rw [hTS]; exact rangeText_yes lo' hi' Q1 Q2 W hV
        have yR : ∀ W, VV W → Calls Tryd.prog 14 #[.string TR] W fun e w' => e = .returned (.tuple #[.agg #[.int .u16 lo, .int .u16 hi], .int .i64 0]) ∧ Fr [] W w' := fun W hV => readR_back lo hi R1 R2 TR (by rw [hTR]) W hV
        have eR : (TR.toList == TS.toList) = (((lo : Int) == (lo' : Int)) && ((hi : Int) == (hi' : Int))) := by
          rw [hTR, hTS, mk_inj, Bool.eq_iff_iff, decide_eq_true_eq, Bool.and_eq_true, beq_iff_eq, beq_iff_eq]
          exact ⟨fun h => by obtain ⟨h1, h2⟩ := rtext_inj (by omega) R2 (by omega) Q2 h; omega, fun h => by rw [show lo = lo' by omega, show hi = hi' by omega]⟩
        clear hTR hTS
        have HR := Lib.hid eR
        clear eR
        have hV1 := hV.fr hF
        have c0 := A1.c0
        have c1 := A1.c1
        go_wp2_with fail
        clear c0 c1
        refine (xR _ hV1).mono ?_
        rintro e w5 ⟨rfl, hG⟩
        replace hF := hF.trans hG
        replace hV1 := hV.fr hF
        replace A1 := A1.fr hG (by simp)
        replace A2 := A2.fr hG (by simp)
        clear hG
        have c0 := A2.c0
        have c1 := A2.c1
        go_wp2_with fail
        clear c0 c1
        refine (xS _ hV1).mono ?_
        rintro e w6 ⟨rfl, hG⟩
        replace hF := hF.trans hG
        replace hV1 := hV.fr hF
        replace A1 := A1.fr hG (by simp)
        replace A2 := A2.fr hG (by simp)
        clear hG
        go_wp2_with fail
        refine (yR _ hV1).mono ?_
        rintro e w7 ⟨rfl, hG⟩
        have D := rc_new w7 lo hi
        replace A1 := (A1.fr hG (by simp)).fr ((Fr.refl [] w7).alloc (.cells #[.int .u16 lo, .int .u16 hi] 25)) (by simp)
        replace A2 := (A2.fr hG (by simp)).fr ((Fr.refl [] w7).alloc (.cells #[.int .u16 lo, .int .u16 hi] 25)) (by simp)
        replace hF := (hF.trans hG).alloc (.cells #[.int .u16 lo, .int .u16 hi] 25)
        clear hG hV1 xR xS yR
        go_upto_region 19 with fail
        generalize w7.alloc (.cells #[.int .u16 lo, .int .u16 hi] 25) = w8 at hF A1 A2 D ⊢
        generalize w7.heap.size = g8 at D ⊢
        have eR : ((TR.toList == TS.toList) == (((lo : Int) == (lo' : Int)) && ((hi : Int) == (hi' : Int)))) = true := by rw [HR.out]; exact beq_self_eq_true _
        obtain ⟨zR, hzR⟩ : ∃ z, z = (((lo : Int) == (lo' : Int)) && ((hi : Int) == (hi' : Int))) := ⟨_, rfl⟩
        rw [← hzR] at eR
        have rR := fun w => eq_range lo hi lo' hi' w
        have rR2 := fun w => eq_range lo hi lo hi w
        rw [← hzR] at rR
        simp only [beq_self_eq_true, Bool.and_self] at rR2
        clear hzR
        have X1 := A1.c0
        have X2 := A1.c1
        have X3 := A2.c0
        have X4 := A2.c1
        have X5 := D.c0
        have X6 := D.c1
        go_wp2_with fail
        go_ret
        exact ⟨rfl, hF⟩
end Go.Proofs.YteblkheodjibbaaDoor
