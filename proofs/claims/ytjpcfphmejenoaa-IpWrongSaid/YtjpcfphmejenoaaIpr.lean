/- Right and its three conditions. -/
import Derived.Test.YtjpcfphmejenoaaIpl
import Derived.Test.YtjpcfphmejenoaaXt
import Derived.Outline
import Derived.Deep.RegionHeld3
namespace Go.Proofs.Ytjpcfphmejenoaa
open Go.RowKit
set_option linter.unusedVariables false
set_option maxRecDepth 100000

/-- A header's value. -/
def HV (h : Hd) (A : Option Addr) (n c : Nat) : Value :=
  .agg #[.int .u8 h.tos, .int .u16 h.id, .bool h.df, .bool h.mf, .int .i64 h.off, .int .u8 h.ttl, .int .u8 h.proto, .int .u32 h.src, .int .u32 h.dst, .slice A n c]
theorem ret_bool {a b : Bool} (h : a = b) : Ending.returned (.bool a) = .returned (.bool b) := by rw [h]
theorem tmod8 {z : Int} (h : 0 ≤ z) : z.tmod 8 = z % 8 := Int.tmod_eq_emod_of_nonneg h

set_option maxHeartbeats 1000000 in
theorem room_any (h : Hd) (A : Option Addr) (n c : Nat) (z : Int) (w : World) (hn : n ≤ 140737488351232) :
    Calls Try.prog 24 #[HV h A n c, .int .i64 z] w fun e w' => e = .returned (.bool (roomB n z)) ∧ Fr [] w w' := by
  unfold HV
  by_cases h1 : n ≤ 40
  · have d1 : decide ((n : Int) ≤ 40) = true := by simp; omega
    by_cases h2 : n % 4 = 0
    · have d2 : ((n : Int) % 4 == 0) = true := by rw [beq_iff_eq]; omega
      by_cases h3 : 0 ≤ z
      · have d3 : decide (0 ≤ z) = true := by simpa using h3
        have w1 : IntKind.i64.wrap (65515 - (n : Int)) = 65515 - (n : Int) := IntWalk.i64_in _ (by omega)
        have d4 : ∃ b, b = decide (z ≤ 65515 - (n : Int)) := ⟨_, rfl⟩
        obtain ⟨b, hb⟩ := d4
        have HR : Hid (b = roomB n z) := by
          show _ = _
          rw [hb]; unfold roomB; simp only [h1, h2, h3, true_and]
        have hb' := hb.symm
        clear h1 h2 h3 hb
        go_enter Try.func24, Try.ntmps24
        go_wp2
        go_ret
        exact ⟨ret_bool (by rw [← HR.out]), (Fr.refl _ _).alloc _⟩
      · have d3 : decide (0 ≤ z) = false := by simpa using h3
        have HR : Hid (roomB n z = false) := by
          show _ = _
          unfold roomB; simp [h3]
        clear h1 h2 h3
        go_enter Try.func24, Try.ntmps24
        go_wp2
        go_ret
        exact ⟨ret_bool (by rw [HR.out]), (Fr.refl _ _).alloc _⟩
    · have d2 : ((n : Int) % 4 == 0) = false := by rw [beq_eq_false_iff_ne]; omega
      have HR : Hid (roomB n z = false) := by
        show _ = _
        unfold roomB; simp [h2]
      clear h1 h2
      go_enter Try.func24, Try.ntmps24
      go_wp2
      go_ret
      exact ⟨ret_bool (by rw [HR.out]), (Fr.refl _ _).alloc _⟩
  · have d1 : decide ((n : Int) ≤ 40) = false := by simp; omega
    have HR : Hid (roomB n z = false) := by
      show _ = _
      unfold roomB; simp [h1]
    clear h1
    go_enter Try.func24, Try.ntmps24
    go_wp2
    go_ret
    exact ⟨ret_bool (by rw [HR.out]), (Fr.refl _ _).alloc _⟩

set_option maxHeartbeats 1000000 in
theorem place_any (h : Hd) (A : Option Addr) (n c : Nat) (z : Int) (w : World) (ho : -9223372036854775808 ≤ h.off ∧ h.off ≤ 9223372036854775807) :
    Calls Try.prog 25 #[HV h A n c, .int .i64 z] w fun e w' => e = .returned (.bool (placeB h.off z)) ∧ Fr [] w w' := by
  unfold HV
  generalize h.off = o at ho ⊢
  by_cases h1 : 0 ≤ o
  · have d1 : decide (0 ≤ o) = true := by simpa using h1
    have t8 := tmod8 h1
    by_cases h2 : o % 8 = 0
    · have d2 : (o % 8 == 0) = true := by rw [beq_iff_eq]; omega
      have w1 : IntKind.i64.wrap (65515 - o) = 65515 - o := IntWalk.i64_in _ (by omega)
      obtain ⟨b, hb⟩ : ∃ b, b = decide (z ≤ 65515 - o) := ⟨_, rfl⟩
      have HR : Hid (b = placeB o z) := by
        show _ = _
        rw [hb]; unfold placeB; simp only [h1, h2, true_and]
      have hb' := hb.symm
      clear h2 hb ho
      go_enter Try.func25, Try.ntmps25
      go_wp2
      go_ret
      exact ⟨ret_bool (by rw [← HR.out]), (Fr.refl _ _).alloc _⟩
    · have d2 : (o % 8 == 0) = false := by rw [beq_eq_false_iff_ne]; omega
      have HR : Hid (placeB o z = false) := by
        show _ = _
        unfold placeB; simp [h2]
      clear h2 ho
      go_enter Try.func25, Try.ntmps25
      go_wp2
      go_ret
      exact ⟨ret_bool (by rw [HR.out]), (Fr.refl _ _).alloc _⟩
  · have d1 : decide (0 ≤ o) = false := by simpa using h1
    have HR : Hid (placeB o z = false) := by
      show _ = _
      unfold placeB; simp [h1]
    clear h1 ho
    go_enter Try.func25, Try.ntmps25
    go_wp2
    go_ret
    exact ⟨ret_bool (by rw [HR.out]), (Fr.refl _ _).alloc _⟩

set_option maxHeartbeats 1000000 in
theorem part_any (h : Hd) (A : Option Addr) (n c : Nat) (z : Int) (w : World) :
    Calls Try.prog 26 #[HV h A n c, .int .i64 z] w fun e w' => e = .returned (.bool (partB h.mf z)) ∧ Fr [] w w' := by
  unfold HV
  generalize h.mf = m
  cases m with
  | false =>
    go_enter Try.func26, Try.ntmps26
    go_wp2
    go_ret
    exact ⟨rfl, (Fr.refl _ _).alloc _⟩
  | true =>
    by_cases h1 : 0 < z
    · have d1 : decide (0 < z) = true := by simpa using h1
      have t8 := tmod8 (z := z) (by omega)
      obtain ⟨b, hb⟩ : ∃ b, b = (z % 8 == 0) := ⟨_, rfl⟩
      have HR : Hid (b = partB true z) := by
        show _ = _
        rw [hb]; unfold partB
        by_cases h2 : z % 8 = 0 <;> simp [h1, h2]
      have hb' := hb.symm
      clear hb
      go_enter Try.func26, Try.ntmps26
      go_wp2
      go_ret
      exact ⟨ret_bool (by rw [← HR.out]), (Fr.refl _ _).alloc _⟩
    · have d1 : decide (0 < z) = false := by simpa using h1
      have HR : Hid (partB true z = false) := by
        show _ = _
        unfold partB; simp [h1]
      clear h1
      go_enter Try.func26, Try.ntmps26
      go_wp2
      go_ret
      exact ⟨ret_bool (by rw [HR.out]), (Fr.refl _ _).alloc _⟩
end Go.Proofs.Ytjpcfphmejenoaa
