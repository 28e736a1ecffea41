/- Ends of keys, and keys, read. -/
import Derived.Test.YteblkheodjibbaaDoorRdp
import Derived.Test.YteblkheodjibbaaDoorOrd
namespace Go.Proofs.YteblkheodjibbaaDoor
open Go.RowKit
set_option linter.unusedVariables false
set_option maxRecDepth 20000

def EndP (W : World) (l : List UInt8) (e : Ending) (w' : World) : Prop :=
  Fr [] W w' ∧ ((∃ a p, a < 4294967296 ∧ p < 65536 ∧ l = etext a p ∧ e = .returned (.tuple #[.int .u32 a, .int .u16 p, .int .i64 0])) ∨ ((∀ a p, a < 4294967296 → p < 65536 → l ≠ etext a p) ∧ e = .returned (.tuple #[.int .u32 0, .int .u16 0, .int .i64 30])))
set_option maxHeartbeats 2000000 in
theorem readEnd_any (s : ByteArray) (hs : s.size ≤ 281474976710656) (W : World) (hV : VV W) : Calls Tryd.prog 27 #[.string s] W (EndP W s.data.toList) := by
  go_enter Tryd.func27, Tryd.ntmps27
  go_wp2_with fail
  refine (cut_any s 58 hs _).mono ?_
  rintro e w1 ⟨hF1, x, y, b, hS, rfl⟩
  have hSL := hS.len
  have HS := Lib.hid hS
  have hsx : (⟨x.toArray⟩ : ByteArray).size ≤ 281474976710656 := by rw [size_of]; rw [size_of] at hs; exact Nat.le_trans hSL.1 hs
  have hsy : (⟨y.toArray⟩ : ByteArray).size ≤ 281474976710656 := by rw [size_of]; rw [size_of] at hs; exact Nat.le_trans hSL.2 hs
  have HSX := Lib.hid hsx
  have HSY := Lib.hid hsy
  have hV1 := hV.fr hF1
  clear hS hSL hsx hsy
  go_wp2_with fail
  refine (read_any _ HSX.out _ hV1).mono ?_
  rintro e w2 ⟨hF2, hR⟩
  have hV2 := hV1.fr hF2
  replace hF1 := hF1.trans hF2
  clear hF2 hV1
  have fail : (∀ a n, a < 4294967296 → n < 65536 → ¬ (x = atext a ∧ y = dec n)) → ∀ a n, a < 4294967296 → n < 65536 → s.data.toList ≠ etext a n := fun h a n ha hn he => h a n ha hn (HS.out.fwd (atext_free (by decide) (by decide) a) he)
  have FAIL := Lib.hid fail
  clear fail
  rcases hR with ⟨a, ha, hx, rfl⟩ | ⟨hx, rfl⟩
  · have HX := Lib.hid hx
    clear hx
    go_wp2_with fail
    refine (num16_any _ HSY.out _ hV2).mono ?_
    rintro e w3 ⟨hF3, ⟨n, hn, hy, rfl⟩ | ⟨hy, rfl⟩⟩
    · have HY := Lib.hid hy
      clear hy
      go_wp2_with fail
      go_ret3
      exact ⟨hF1.trans hF3, .inl ⟨a, n, ha, hn, HS.out.bwd (dec_ne n) HX.out HY.out, rfl⟩⟩
    · have HY := Lib.hid hy
      clear hy
      go_wp2_with fail
      go_ret3
      exact ⟨hF1.trans hF3, .inr ⟨FAIL.out fun a' n' _ hn' h => HY.out n' hn' h.2, rfl⟩⟩
  · have HX := Lib.hid hx
    clear hx
    go_wp2_with fail
    refine (num16_any _ HSY.out _ hV2).mono ?_
    rintro e w3 ⟨hF3, ⟨n, hn, hy, rfl⟩ | ⟨hy, rfl⟩⟩
    · clear hy
      go_wp2_with fail
      go_ret3
      exact ⟨hF1.trans hF3, .inr ⟨FAIL.out fun a' n' ha' _ h => HX.out a' ha' h.1, rfl⟩⟩
    · clear hy
      go_wp2_with fail
      go_ret3
      exact ⟨hF1.trans hF3, .inr ⟨FAIL.out fun a' n' ha' _ h => HX.out a' ha' h.1, rfl⟩⟩

theorem pieces3 (l : List UInt8) (N : Nat) (hN : N = min 3 (l.length + 1)) :
    ((Lib.splitB ⟨#[32]⟩ 0 (N - 1) ⟨l.toArray⟩).length ≠ 3 ∧ ∀ k a p b q, l ≠ ktext k a p b q) ∨
    ∃ x1 x2 x3 : List UInt8, N = 3 ∧ Lib.splitB ⟨#[32]⟩ 0 (N - 1) ⟨l.toArray⟩ = [⟨x1.toArray⟩, ⟨x2.toArray⟩, ⟨x3.toArray⟩] ∧ l = x1 ++ 32 :: (x2 ++ 32 :: x3) ∧ 32 ∉ x1 ∧ 32 ∉ x2 := by
  by_cases hL : (Lib.splitB ⟨#[32]⟩ 0 (N - 1) ⟨l.toArray⟩).length = 3
  · have hle := Lib.splitB_length_le ⟨#[32]⟩ 0 (N - 1) ⟨l.toArray⟩
    have hN4 : N = 3 := by omega
    subst hN4
    refine .inr ?_
    rw [show 3 - 1 = 1 + 1 from rfl] at hL ⊢
    rcases split_cases l 32 1 with h | ⟨x1, y1, h1, g1, e1⟩
    · rw [h] at hL; simp at hL
    · rw [e1] at hL ⊢
      rcases split_cases y1 32 0 with h | ⟨x2, y2, h2, g2, e2⟩
      · rw [h] at hL; simp at hL
      · exact ⟨x1, x2, y2, rfl, by rw [e2]; rfl, by rw [h1, h2], g1, g2⟩
  · refine .inl ⟨hL, fun k a p b q e => hL ?_⟩
    have hlen : 2 ≤ l.length := by
      rw [e]
      unfold ktext
      simp only [List.length_append, List.length_cons]
      omega
    have hN4 : N = 3 := by omega
    subst hN4
    rw [e]
    unfold ktext
    rw [show 3 - 1 = 1 + 1 from rfl, split_hit 1 (dec_free (by decide) _), split_hit 0 (etext_free (by decide) (by decide) (by decide) _ _)]
    rfl
theorem keys_uniq {x1 x2 x3 : List UInt8} (g1 : (32 : UInt8) ∉ x1) (g2 : (32 : UInt8) ∉ x2) {k a p b q : Nat} (h : x1 ++ 32 :: (x2 ++ 32 :: x3) = ktext k a p b q) : x1 = dec k ∧ x2 = etext a p ∧ x3 = etext b q := by
  unfold ktext at h
  obtain ⟨e1, h⟩ := first_unique g1 (dec_free (by decide) _) h
  obtain ⟨e2, e3⟩ := first_unique g2 (etext_free (by decide) (by decide) (by decide) _ _) h
  exact ⟨e1, e2, e3⟩

theorem five_set {w : World} {g : Nat} {t : TypeId} {o0 o1 o2 o3 o4 : Value} (hb : w.heap[g]? = some (.cells #[o0, o1, o2, o3, o4] t (0, 0))) (v0 v1 v2 v3 v4 : Value) (w' : World)
    (hw : w' = ((((w.setCell ⟨g, 0, none⟩ v0).setCell ⟨g, 1, none⟩ v1).setCell ⟨g, 2, none⟩ v2).setCell ⟨g, 3, none⟩ v3).setCell ⟨g, 4, none⟩ v4) :
    w'.cell? ⟨g, 0, none⟩ = some v0 ∧ w'.cell? ⟨g, 1, none⟩ = some v1 ∧ w'.cell? ⟨g, 2, none⟩ = some v2 ∧ w'.cell? ⟨g, 3, none⟩ = some v3 ∧ w'.cell? ⟨g, 4, none⟩ = some v4 := by
  have o : ∀ (w : World) (i j : Nat) (v : Value), i ≠ j → (w.setCell ⟨g, i, none⟩ v).cell? ⟨g, j, none⟩ = w.cell? ⟨g, j, none⟩ := fun w i j v h => World.cell?_setCell_other _ _ _ _ (by intro e; injection e with _ e; exact h e)
  subst hw
  refine ⟨?_, ?_, ?_, ?_, ?_⟩
  · rw [o _ 4 0 _ (by decide), o _ 3 0 _ (by decide), o _ 2 0 _ (by decide), o _ 1 0 _ (by decide)]
    exact World.cell?_setCell_same _ _ _ (blk_cell (j := 0) hb rfl)
  · rw [o _ 4 1 _ (by decide), o _ 3 1 _ (by decide), o _ 2 1 _ (by decide)]
    refine World.cell?_setCell_same _ _ _ (?_ : _ = some o1)
    rw [o _ 0 1 _ (by decide)]
    exact blk_cell (j := 1) hb rfl
  · rw [o _ 4 2 _ (by decide), o _ 3 2 _ (by decide)]
    refine World.cell?_setCell_same _ _ _ (?_ : _ = some o2)
    rw [o _ 1 2 _ (by decide), o _ 0 2 _ (by decide)]
    exact blk_cell (j := 2) hb rfl
  · rw [o _ 4 3 _ (by decide)]
    refine World.cell?_setCell_same _ _ _ (?_ : _ = some o3)
    rw [o _ 2 3 _ (by decide), o _ 1 3 _ (by decide), o _ 0 3 _ (by decide)]
    exact blk_cell (j := 3) hb rfl
  · refine World.cell?_setCell_same _ _ _ (?_ : _ = some o4)
    rw [o _ 3 4 _ (by decide), o _ 2 4 _ (by decide), o _ 1 4 _ (by decide), o _ 0 4 _ (by decide)]
    exact blk_cell (j := 4) hb rfl

def KeyP (W : World) (l : List UInt8) (e : Ending) (w' : World) : Prop :=
  Fr [] W w' ∧ ((∃ k a b p q, KOK k a b p q ∧ l = ktext k a p b q ∧ e = .returned (.tuple #[KV k a b p q, .int .i64 0])) ∨ ((∀ k a b p q, KOK k a b p q → l ≠ ktext k a p b q) ∧ e = .returned (.tuple #[KV 0 0 0 0 0, .int .i64 30])))
end Go.Proofs.YteblkheodjibbaaDoor
