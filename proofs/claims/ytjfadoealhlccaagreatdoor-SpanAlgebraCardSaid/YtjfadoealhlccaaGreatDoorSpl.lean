/- strings.Cut and strings.SplitN at a separator of one byte, for a string of any length. -/
import Derived.Test.YtjfadoealhlccaaGreatDoorVars
import Derived.Lib.SplitLaws
import Derived.Lib.IndexLaws
import Derived.Lib.IndexBytes
import Derived.Laws.Strings3
import Derived.Deep.OwnRows
import Derived.Deep.LoopGhost
namespace Go.Proofs.YtjfadoealhlccaaGreatDoor
open Go.RowKit
set_option linter.unusedVariables false
set_option maxRecDepth 20000

/-- Where the first c stands. -/
theorem idx_cases (l : List UInt8) (c : UInt8) : (Lib.indexByte l c = -1 ∧ c ∉ l) ∨ ∃ x y, l = x ++ c :: y ∧ c ∉ x ∧ Lib.indexByte l c = x.length := by
  induction l with
  | nil => exact .inl ⟨rfl, by simp⟩
  | cons b l ih =>
    by_cases hb : (b == c) = true
    · have e : b = c := by simpa using hb
      subst e
      exact .inr ⟨[], l, rfl, by simp, by unfold Lib.indexByte; rw [if_pos hb]; rfl⟩
    · have hbc : b ≠ c := by simpa using hb
      rcases ih with ⟨h1, h2⟩ | ⟨x, y, h1, h2, h3⟩
      · refine .inl ⟨by unfold Lib.indexByte; rw [if_neg hb, h1]; rfl, ?_⟩
        simp only [List.mem_cons, not_or]
        exact ⟨fun e => hbc e.symm, h2⟩
      · refine .inr ⟨b :: x, y, by rw [h1]; rfl, ?_, ?_⟩
        · simp only [List.mem_cons, not_or]
          exact ⟨fun e => hbc e.symm, h2⟩
        · unfold Lib.indexByte
          rw [if_neg hb, h3, if_neg (by simp)]
          simp
theorem str_of {s : ByteArray} {l : List UInt8} (h : s.data.toList = l) : s = ⟨l.toArray⟩ := by
  apply ByteArray.ext
  rw [← h]
theorem size_of (s : ByteArray) : s.size = s.data.toList.length := by rw [Array.length_toList]; rfl
theorem ext_to (x y : List UInt8) (c : UInt8) : (⟨(x ++ c :: y).toArray⟩ : ByteArray).extract 0 x.length = ⟨x.toArray⟩ := by
  apply ByteArray.ext
  simp [ByteArray.data_extract]
theorem ext_from (x y : List UInt8) (c : UInt8) : (⟨(x ++ c :: y).toArray⟩ : ByteArray).extract (x.length + 1) (x.length + (y.length + 1)) = ⟨y.toArray⟩ := by
  apply ByteArray.ext
  simp only [ByteArray.data_extract, List.extract_toArray, List.extract_eq_take_drop]
  congr 1
  rw [List.drop_append, List.drop_of_length_le (by omega), show x.length + 1 - x.length = 1 by omega]
  simp only [List.nil_append, List.drop_succ_cons, List.drop_zero]
  exact List.take_of_length_le (by omega)

def CutP (c : UInt8) (W : World) (s : ByteArray) (e : Ending) (w' : World) : Prop :=
  Fr [] W w' ∧ ((c ∉ s.data.toList ∧ e = .returned (.tuple #[.string s, .string ⟨#[]⟩, .bool false])) ∨ ∃ x y, s.data.toList = x ++ c :: y ∧ c ∉ x ∧ e = .returned (.tuple #[.string ⟨x.toArray⟩, .string ⟨y.toArray⟩, .bool true]))
set_option maxHeartbeats 1000000 in
theorem cut2_any (s : ByteArray) (c : UInt8) (hs : s.size ≤ 281474976710656) (W : World) : Calls Tryz.prog 92 #[.string s, .string ⟨#[c]⟩] W (CutP c W s) := by
  rcases idx_cases s.data.toList c with ⟨h1, h2⟩ | ⟨x, y, h1, h2, h3⟩
  · have hI := index2_any s c W
    rw [h1] at hI
    have HH := Lib.hid h2
    clear h1 h2
    go_enter Tryz.func92, Tryz.ntmps92
    go_wp2_with fail
    refine hI.mono ?_
    rintro e w' ⟨rfl, rfl⟩
    go_wp2_with fail
    go_ret3
    exact ⟨Fr.refl _ _, .inl ⟨HH.out, rfl⟩⟩
  · have hI := index2_any s c W
    rw [h3] at hI
    have hsz : s.size = x.length + (y.length + 1) := by rw [size_of, h1]; simp
    obtain rfl := str_of h1
    have HH := Lib.hid h2
    have hw : IntKind.i64.wrap ((x.length : Int) + 1) = (x.length : Int) + 1 := i64_of (by omega) (by omega)
    have c0 : (0 : Int) ≤ (x.length : Int) := by omega
    have c1 : (x.length : Int) ≤ ((x.length + (y.length + 1) : Nat) : Int) := by omega
    have c2 : (0 : Int) ≤ (x.length : Int) + 1 := by omega
    have c3 : (x.length : Int) + 1 ≤ ((x.length + (y.length + 1) : Nat) : Int) := by omega
    clear h1 h2 h3
    go_enter Tryz.func92, Tryz.ntmps92
    go_wp2_with fail
    refine hI.mono ?_
    rintro e w' ⟨rfl, rfl⟩
    go_wp2_with fail
    go_quiet (fail)
    go_wp2
    go_ret3
    refine ⟨(Fr.refl [] w').drewN nq, .inr ⟨x, y, rfl, HH.out, ?_⟩⟩
    rw [← ext_from x y c, ← ext_to x y c]
    rfl
set_option maxHeartbeats 1000000 in
theorem cutS_any (s : ByteArray) (c : UInt8) (hs : s.size ≤ 281474976710656) (W : World) : Calls Tryz.prog 71 #[.string s, .string ⟨#[c]⟩] W (CutP c W s) := by
  have H := cut2_any s c hs W
  go_enter Tryz.func71, Tryz.ntmps71
  go_wp2_with fail
  refine H.mono ?_
  rintro e w' ⟨hF, ⟨h1, rfl⟩ | ⟨x, y, h1, h2, rfl⟩⟩
  · have HH := Lib.hid h1
    clear h1
    go_wp2_with fail
    go_ret3
    exact ⟨hF, .inl ⟨HH.out, rfl⟩⟩
  · have HH := Lib.hid h1
    have HH2 := Lib.hid h2
    clear h1 h2
    go_wp2_with fail
    go_ret3
    exact ⟨hF, .inr ⟨x, y, HH.out, HH2.out, rfl⟩⟩

/-! SplitN. -/
theorem indexB_hit {x y : List UInt8} {c : UInt8} (h : c ∉ x) : Lib.indexB ⟨(x ++ c :: y).toArray⟩ ⟨#[c]⟩ = x.length := by
  show Lib.index (x ++ c :: y) [c] = _
  rw [Lib.index_one]
  rcases idx_cases (x ++ c :: y) c with ⟨_, h2⟩ | ⟨x', y', h1, h2, h3⟩
  · exact absurd (by simp) h2
  · rw [h3, (first_unique h h2 h1).1]
theorem indexB_miss {l : List UInt8} {c : UInt8} (h : c ∉ l) : Lib.indexB ⟨l.toArray⟩ ⟨#[c]⟩ = -1 := by
  show Lib.index l [c] = _
  rw [Lib.index_one]
  rcases idx_cases l c with ⟨h1, _⟩ | ⟨x', y', h1, _, _⟩
  · exact h1
  · exact absurd (by rw [h1]; simp) h
theorem split_hit {x y : List UInt8} {c : UInt8} (k : Nat) (h : c ∉ x) : Lib.splitB ⟨#[c]⟩ 0 (k + 1) ⟨(x ++ c :: y).toArray⟩ = ⟨x.toArray⟩ :: Lib.splitB ⟨#[c]⟩ 0 k ⟨y.toArray⟩ := by
  rw [Lib.splitB_hit _ _ _ _ _ (indexB_hit h)]
  have e1 := ext_to x y c
  have e2 := ext_from x y c
  have e3 : (⟨(x ++ c :: y).toArray⟩ : ByteArray).size = x.length + (y.length + 1) := by rw [size_of]; simp
  rw [show x.length + 0 = x.length from rfl, e1, e3, show (⟨#[c]⟩ : ByteArray).size = 1 from rfl, e2]
theorem split_miss {l : List UInt8} {c : UInt8} (k : Nat) (h : c ∉ l) : Lib.splitB ⟨#[c]⟩ 0 k ⟨l.toArray⟩ = [⟨l.toArray⟩] := Lib.splitB_miss _ _ _ _ (indexB_miss h)
/-- The pieces, one by one. -/
theorem split_cases (l : List UInt8) (c : UInt8) (k : Nat) : (Lib.splitB ⟨#[c]⟩ 0 (k + 1) ⟨l.toArray⟩ = [⟨l.toArray⟩]) ∨ ∃ x y, l = x ++ c :: y ∧ c ∉ x ∧ Lib.splitB ⟨#[c]⟩ 0 (k + 1) ⟨l.toArray⟩ = ⟨x.toArray⟩ :: Lib.splitB ⟨#[c]⟩ 0 k ⟨y.toArray⟩ := by
  rcases idx_cases l c with ⟨_, h⟩ | ⟨x, y, rfl, h, _⟩
  · exact .inl (split_miss _ h)
  · exact .inr ⟨x, y, rfl, h, split_hit k h⟩

end Go.Proofs.YtjfadoealhlccaaGreatDoor
