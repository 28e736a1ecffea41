/- Numbers and their texts: decimal, number. -/
import Derived.Test.YteblkheodjibbaaDoorVars
namespace Go.Proofs.YteblkheodjibbaaDoor
open Go.RowKit
set_option linter.unusedVariables false
set_option maxRecDepth 20000

theorem dec8_any (n : Nat) (hn : n < 256) (W : World) (hV : VV W) : Calls Tryd.prog 24 #[.int .u8 n] W fun e w' => e = .returned (.string ⟨(dec n).toArray⟩) ∧ Fr [] W w' := by
  have hw : IntKind.i64.wrap (n : Int) = n := i64_of (by omega) (by omega)
  have H := itoa_any n (by omega) W hV
  go_enter Tryd.func24, Tryd.ntmps24
  go_wp2_with fail
  refine H.mono ?_
  rintro e w' ⟨rfl, hF⟩
  go_wp2_with fail
  go_ret
  exact ⟨rfl, hF⟩
theorem dec16_any (n : Nat) (hn : n < 65536) (W : World) (hV : VV W) : Calls Tryd.prog 30 #[.int .u16 n] W fun e w' => e = .returned (.string ⟨(dec n).toArray⟩) ∧ Fr [] W w' := by
  have hw : IntKind.i64.wrap (n : Int) = n := i64_of (by omega) (by omega)
  have H := itoa_any n (by omega) W hV
  go_enter Tryd.func30, Tryd.ntmps30
  go_wp2_with fail
  refine H.mono ?_
  rintro e w' ⟨rfl, hF⟩
  go_wp2_with fail
  go_ret
  exact ⟨rfl, hF⟩

theorem neq_str {l : List UInt8} {s : ByteArray} (h : ¬ (⟨l.toArray⟩ : ByteArray) = s) : (l == s.toList) = false := by
  rw [beq_eq_false_iff_ne]
  intro e
  apply h
  rw [e, Lib.toList_data]
/-- The number whose text a string is. -/
def NumP (K : Nat) (k : IntKind) (W : World) (s : ByteArray) (e : Ending) (w' : World) : Prop :=
  Fr [] W w' ∧ ((∃ n, n < K ∧ s.data.toList = dec n ∧ e = .returned (.tuple #[.int k n, .bool true])) ∨ ((∀ n, n < K → s.data.toList ≠ dec n) ∧ e = .returned (.tuple #[.int k 0, .bool false])))
set_option maxHeartbeats 1000000 in
theorem num8_any (s : ByteArray) (hs : s.size ≤ 281474976710656) (W : World) (hV : VV W) : Calls Tryd.prog 23 #[.string s] W (NumP 256 .u8 W s) := by
  have H := parse_any s hs W hV
  go_enter Tryd.func23, Tryd.ntmps23
  go_wp2_with fail
  refine H.mono ?_
  rintro e w' ⟨hF, ⟨u, hu, rfl⟩ | ⟨hu, v, t, a, rfl⟩⟩
  · have hu2 : u < 65536 := by have := Lib.parseUintB_le hu; omega
    have hwr : IntKind.u8.wrap (u : Int) = ((u % 256 : Nat) : Int) := by rw [IntKind.wrap_u8]; omega
    obtain ⟨m, hm⟩ : ∃ m, m = u % 256 := ⟨_, rfl⟩
    rw [← hm] at hwr
    have hm2 : m < 256 := by omega
    have HD := dec8_any m hm2 w' (hV.fr hF)
    have HU := Lib.hid hu
    have HM := Lib.hid hm
    clear hm hu
    go_wp2_with fail
    refine HD.mono ?_
    rintro e w2 ⟨rfl, hF2⟩
    by_cases he : (⟨(dec m).toArray⟩ : ByteArray) = s
    · subst he
      go_wp2_with fail
      go_ret2
      exact ⟨hF.trans hF2, .inl ⟨m, hm2, rfl, rfl⟩⟩
    · have he2 : (dec m == s.toList) = false := neq_str he
      go_wp2_with fail
      go_ret2
      refine ⟨hF.trans hF2, .inr ⟨fun n hn hs => ?_, rfl⟩⟩
      have h1 := HU.out
      rw [hs, parse_dec (by omega)] at h1
      injection h1 with h1
      have hmn : m = n := by have := HM.out; omega
      subst hmn
      exact he (by rw [← hs])
  · have HU := Lib.hid hu
    clear hu
    go_wp2_with fail
    go_ret2
    exact ⟨hF, .inr ⟨fun n hn hs => HU.out n (by rw [hs]; exact parse_dec (by omega)), rfl⟩⟩
set_option maxHeartbeats 1000000 in
theorem num16_any (s : ByteArray) (hs : s.size ≤ 281474976710656) (W : World) (hV : VV W) : Calls Tryd.prog 31 #[.string s] W (NumP 65536 .u16 W s) := by
  have H := parse_any s hs W hV
  go_enter Tryd.func31, Tryd.ntmps31
  go_wp2_with fail
  refine H.mono ?_
  rintro e w' ⟨hF, ⟨u, hu, rfl⟩ | ⟨hu, v, t, a, rfl⟩⟩
  · have hu2 : u < 65536 := by have := Lib.parseUintB_le hu; omega
    have hwr : IntKind.u16.wrap (u : Int) = ((u % 65536 : Nat) : Int) := by rw [IntKind.wrap_u16]; omega
    obtain ⟨m, hm⟩ : ∃ m, m = u % 65536 := ⟨_, rfl⟩
    rw [← hm] at hwr
    have hm2 : m < 65536 := by omega
    have HD := dec16_any m hm2 w' (hV.fr hF)
    have HU := Lib.hid hu
    have HM := Lib.hid hm
    clear hm hu
    go_wp2_with fail
    refine HD.mono ?_
    rintro e w2 ⟨rfl, hF2⟩
    by_cases he : (⟨(dec m).toArray⟩ : ByteArray) = s
    · subst he
      go_wp2_with fail
      go_ret2
      exact ⟨hF.trans hF2, .inl ⟨m, hm2, rfl, rfl⟩⟩
    · have he2 : (dec m == s.toList) = false := neq_str he
      go_wp2_with fail
      go_ret2
      refine ⟨hF.trans hF2, .inr ⟨fun n hn hs => ?_, rfl⟩⟩
      have h1 := HU.out
      rw [hs, parse_dec (by omega)] at h1
      injection h1 with h1
      have hmn : m = n := by have := HM.out; omega
      subst hmn
      exact he (by rw [← hs])
  · have HU := Lib.hid hu
    clear hu
    go_wp2_with fail
    go_ret2
    exact ⟨hF, .inr ⟨fun n hn hs => HU.out n (by rw [hs]; exact parse_dec (by omega)), rfl⟩⟩
end Go.Proofs.YteblkheodjibbaaDoor
