/- Ranges: RangeText, ReadRange. -/
import Derived.Test.YteblkheodjibbaaDoorRdp
import Derived.Test.YteblkheodjibbaaDoorOrd
namespace Go.Proofs.YteblkheodjibbaaDoor
open Go.RowKit
set_option linter.unusedVariables false
set_option maxRecDepth 20000

set_option maxHeartbeats 2000000 in
theorem rangeText_yes (a b : Nat) (hab : a ≤ b) (hb : b < 65536) (W : World) (hV : VV W) : Calls Tryd.prog 13 #[.agg #[.int .u16 a, .int .u16 b]] W fun e w' => e = .returned (.tuple #[.string ⟨(rtext a b).toArray⟩, .int .i64 0]) ∧ Fr [] W w' := by
  have hR := fun W => rightRange_any a b W
  rw [decide_eq_true hab] at hR
  have hb0 := blk_new W #[.int .u16 a, .int .u16 b] 25
  have hF0 : Fr [] W (W.alloc (.cells #[.int .u16 a, .int .u16 b] 25)) := (Fr.refl _ _).alloc _
  by_cases h1 : a = 0 ∧ b = 65535
  · have e : rtext a b = [42] := if_pos h1
    rw [e]
    obtain ⟨rfl, rfl⟩ := h1
    go_enter Tryd.func13, Tryd.ntmps13
    go_wp2_with fail
    refine (hR _).mono ?_
    rintro e w1 ⟨rfl, hF1⟩
    have hb1 := hF1.blk hb0 (by simp)
    have z0 : w1.cell? ⟨W.heap.size, 0, none⟩ = some (.int .u16 0) := blk_cell hb1 rfl
    have z1 : w1.cell? ⟨W.heap.size, 1, none⟩ = some (.int .u16 65535) := blk_cell hb1 rfl
    replace hF1 := hF0.trans hF1
    clear hb0 hb1 hF0 hR
    go_wp2_with fail
    go_ret2
    exact ⟨rfl, hF1⟩
  · by_cases h2 : a = b
    · have e : rtext a b = dec a := by unfold rtext; rw [if_neg h1, if_pos h2]
      rw [e]
      clear e
      subst h2
      by_cases h4 : a = 0
      · subst h4
        have hD : ∀ W, VV W → Calls Tryd.prog 30 #[.int .u16 0] W fun e w' => e = .returned (.string ⟨(dec 0).toArray⟩) ∧ Fr [] W w' := fun W hV => dec16_any 0 (by decide) W hV
        replace hR : ∀ W, Calls Tryd.prog 29 #[.agg #[.int .u16 0, .int .u16 0]] W fun e w' => e = .returned (.bool true) ∧ Fr [] W w' := hR
        clear h1 hab hb
        go_enter Tryd.func13, Tryd.ntmps13
        go_wp2_with fail
        refine (hR _).mono ?_
        rintro e w1 ⟨rfl, hF1⟩
        have hb1 := hF1.blk hb0 (by simp)
        have z0 : w1.cell? ⟨W.heap.size, 0, none⟩ = some (.int .u16 0) := blk_cell hb1 rfl
        have z1 : w1.cell? ⟨W.heap.size, 1, none⟩ = some (.int .u16 0) := blk_cell hb1 rfl
        replace hF1 := hF0.trans hF1
        clear hb0 hb1 hF0 hR
        have hV1 := hV.fr hF1
        go_wp2_with fail
        refine (hD _ hV1).mono ?_
        rintro e w2 ⟨rfl, hF2⟩
        go_wp2_with fail
        go_ret2
        exact ⟨rfl, hF1.trans hF2⟩
      · clear h1
        have hD : ∀ W, VV W → Calls Tryd.prog 30 #[.int .u16 a] W fun e w' => e = .returned (.string ⟨(dec a).toArray⟩) ∧ Fr [] W w' := fun W hV => dec16_any a (by omega) W hV
        have h0 : ((a : Int) == 0) = false := by rw [beq_eq_false_iff_ne]; omega
        go_enter Tryd.func13, Tryd.ntmps13
        go_wp2_with fail
        refine (hR _).mono ?_
        rintro e w1 ⟨rfl, hF1⟩
        have hb1 := hF1.blk hb0 (by simp)
        have z0 : w1.cell? ⟨W.heap.size, 0, none⟩ = some (.int .u16 a) := blk_cell hb1 rfl
        have z1 : w1.cell? ⟨W.heap.size, 1, none⟩ = some (.int .u16 a) := blk_cell hb1 rfl
        replace hF1 := hF0.trans hF1
        clear hb0 hb1 hF0 hR
        have hV1 := hV.fr hF1
        go_wp2_with fail
        refine (hD _ hV1).mono ?_
        rintro e w2 ⟨rfl, hF2⟩
        go_wp2_with fail
        go_ret2
        exact ⟨rfl, hF1.trans hF2⟩
    · have e : rtext a b = dec a ++ 45 :: dec b := by unfold rtext; rw [if_neg h1, if_neg h2]
      rw [e]
      clear e
      have ha : a < 65536 := by omega
      have l1 := dec_len5 ha
      have l2 := dec_len5 hb
      have n1 : ¬ 9223372036854775807 < (dec a).length + 1 := by omega
      have n2 : ¬ 9223372036854775807 < (dec a).length + 1 + (dec b).length := by omega
      have h3 : ((a : Int) == (b : Int)) = false := by rw [beq_eq_false_iff_ne]; omega
      clear l1 l2
      by_cases h4 : a = 0
      · subst h4
        replace h3 : ((0 : Int) == (b : Int)) = false := h3
        have h5 : ((b : Int) == 65535) = false := by rw [beq_eq_false_iff_ne]; omega
        have h6 : ¬ b = 65535 := by omega
        have hD : ∀ W, VV W → Calls Tryd.prog 30 #[.int .u16 0] W fun e w' => e = .returned (.string ⟨(dec 0).toArray⟩) ∧ Fr [] W w' := fun W hV => dec16_any 0 (by decide) W hV
        replace hR : ∀ W, Calls Tryd.prog 29 #[.agg #[.int .u16 0, .int .u16 b]] W fun e w' => e = .returned (.bool true) ∧ Fr [] W w' := hR
        go_enter Tryd.func13, Tryd.ntmps13
        go_wp2_with fail
        refine (hR _).mono ?_
        rintro e w1 ⟨rfl, hF1⟩
        have hb1 := hF1.blk hb0 (by simp)
        have z0 : w1.cell? ⟨W.heap.size, 0, none⟩ = some (.int .u16 0) := blk_cell hb1 rfl
        have z1 : w1.cell? ⟨W.heap.size, 1, none⟩ = some (.int .u16 b) := blk_cell hb1 rfl
        replace hF1 := hF0.trans hF1
        clear hb0 hb1 hF0 hR
        have hV1 := hV.fr hF1
        go_wp2_with fail
        have x0 := xt_cell z0
        have x1 := xt_cell z1
        refine wp_region_xt (by kernel_rfl) (by kernel_rfl) ?_
        repeat (go_big_quiet_step ((first
          | (go_at_call_of 30 (Value.int .u16 b); exact Calls.xt (fun W' hW' => dec16_any b hb W' (hV1.fr hW')) _)
          | (go_at_call 30; exact Calls.xt (fun W' hW' => hD W' (hV1.fr hW')) _))))
        refine wpQuiet_nil ?_
        rintro w2 ⟨x, rfl⟩
        have hF2 := xt_fr x
        go_wp2
        go_ret2
        refine ⟨congrArg (fun s => Ending.returned (Value.tuple #[Value.string s, .int .i64 0])) (ByteArray.ext ?_), hF1.trans hF2⟩
        simp [ByteArray.data_append]
      · clear h1
        have hD : ∀ W, VV W → Calls Tryd.prog 30 #[.int .u16 a] W fun e w' => e = .returned (.string ⟨(dec a).toArray⟩) ∧ Fr [] W w' := fun W hV => dec16_any a (by omega) W hV
        have h0 : ((a : Int) == 0) = false := by rw [beq_eq_false_iff_ne]; omega
        go_enter Tryd.func13, Tryd.ntmps13
        go_wp2_with fail
        refine (hR _).mono ?_
        rintro e w1 ⟨rfl, hF1⟩
        have hb1 := hF1.blk hb0 (by simp)
        have z0 : w1.cell? ⟨W.heap.size, 0, none⟩ = some (.int .u16 a) := blk_cell hb1 rfl
        have z1 : w1.cell? ⟨W.heap.size, 1, none⟩ = some (.int .u16 b) := blk_cell hb1 rfl
        replace hF1 := hF0.trans hF1
        clear hb0 hb1 hF0 hR
        have hV1 := hV.fr hF1
        go_wp2_with fail
        have x0 := xt_cell z0
        have x1 := xt_cell z1
        refine wp_region_xt (by kernel_rfl) (by kernel_rfl) ?_
        repeat (go_big_quiet_step ((first
          | (go_at_call_of 30 (Value.int .u16 b); exact Calls.xt (fun W' hW' => dec16_any b hb W' (hV1.fr hW')) _)
          | (go_at_call 30; exact Calls.xt (fun W' hW' => hD W' (hV1.fr hW')) _))))
        refine wpQuiet_nil ?_
        rintro w2 ⟨x, rfl⟩
        have hF2 := xt_fr x
        go_wp2
        go_ret2
        refine ⟨congrArg (fun s => Ending.returned (Value.tuple #[Value.string s, .int .i64 0])) (ByteArray.ext ?_), hF1.trans hF2⟩
        simp [ByteArray.data_append]
theorem rangeText_no (a b : Nat) (hab : ¬ a ≤ b) (W : World) : Calls Tryd.prog 13 #[.agg #[.int .u16 a, .int .u16 b]] W fun e w' => e = .returned (.tuple #[.string ⟨#[]⟩, .int .i64 32]) ∧ Fr [] W w' := by
  have hR := fun W => rightRange_any a b W
  rw [decide_eq_false hab] at hR
  have hF0 : Fr [] W (W.alloc (.cells #[.int .u16 a, .int .u16 b] 25)) := (Fr.refl _ _).alloc _
  go_enter Tryd.func13, Tryd.ntmps13
  go_wp2_with fail
  refine (hR _).mono ?_
  rintro e w1 ⟨rfl, hF1⟩
  go_wp2_with fail
  go_ret2
  exact ⟨rfl, hF0.trans hF1⟩
end Go.Proofs.YteblkheodjibbaaDoor
