/- AddrReads: what is read of a string is written so. -/
import Derived.Test.YticopkegbiemjabDoorAwk
import Derived.Test.YticopkegbiemjabDoorRdk
namespace Go.Proofs.YticopkegbiemjabDoor
open Go.RowKit
set_option linter.unusedVariables false
set_option maxRecDepth 100000

theorem str_is {s : ByteArray} {l : List UInt8} (h : s.data.toList = l) : (⟨l.toArray⟩ : ByteArray) = s := by
  subst h
  cases s
  simp
theorem read_two (s : ByteArray) (hs : s.size ≤ 281474976710656) (W : World) (hV : VV W) : Calls Tryd.prog 9 #[.string s] W fun e w' => Fr [] W w' ∧
    ((∃ a : Nat, e = .returned (.tuple #[.int .u32 a, .int .i64 0]) ∧ ∀ W', VV W' → Calls Tryd.prog 10 #[.int .u32 a] W' fun e w'' => e = .returned (.string s) ∧ Fr [] W' w'') ∨ e = .returned (.tuple #[.int .u32 0, .int .i64 30])) := by
  refine (read_any s hs W hV).mono ?_
  rintro e w' ⟨hF, ⟨a, ha, h, rfl⟩ | ⟨h, rfl⟩⟩
  · refine ⟨hF, .inl ⟨a, rfl, fun W' hV' => ?_⟩⟩
    have := text_any a ha W' hV'
    rwa [str_is h] at this
  · exact ⟨hF, .inr rfl⟩
theorem readP_two (s : ByteArray) (hs : s.size ≤ 281474976710656) (W : World) (hV : VV W) : Calls Tryd.prog 11 #[.string s] W fun e w' => Fr [] W w' ∧
    ((∃ a n : Nat, e = .returned (.tuple #[.agg #[.int .u32 a, .int .u8 n], .int .i64 0]) ∧ ∀ W', VV W' → Calls Tryd.prog 12 #[.agg #[.int .u32 a, .int .u8 n]] W' fun e w'' => e = .returned (.tuple #[.string s, .int .i64 0]) ∧ Fr [] W' w'') ∨ e = .returned (.tuple #[.agg #[.int .u32 0, .int .u8 0], .int .i64 30])) := by
  refine (readPrefix_any s hs W hV).mono ?_
  rintro e w' ⟨hF, ⟨a, n, ha, hn, hp, h, rfl⟩ | ⟨h, rfl⟩⟩
  · refine ⟨hF, .inl ⟨a, n, rfl, fun W' hV' => ?_⟩⟩
    have := ptext_yes a n ha hn hp W' hV'
    rwa [str_is h] at this
  · exact ⟨hF, .inr rfl⟩
theorem ptext_zero (W : World) (hV : VV W) : Calls Tryd.prog 12 #[.agg #[.int .u32 0, .int .u8 0]] W fun e w' => e = .returned (.tuple #[.string ⟨(ptext 0 0).toArray⟩, .int .i64 0]) ∧ Fr [] W w' :=
  ptext_yes 0 0 (by decide) (by decide) (by decide) W hV
theorem readR_two (s : ByteArray) (hs : s.size ≤ 281474976710656) (W : World) (hV : VV W) : Calls Tryd.prog 13 #[.string s] W fun e w' => Fr [] W w' ∧
    ((∃ a n : Nat, e = .returned (.tuple #[.agg #[.int .u16 a, .int .u16 n], .int .i64 0]) ∧ ∀ W', VV W' → Calls Tryd.prog 14 #[.agg #[.int .u16 a, .int .u16 n]] W' fun e w'' => e = .returned (.tuple #[.string s, .int .i64 0]) ∧ Fr [] W' w'') ∨ e = .returned (.tuple #[.agg #[.int .u16 0, .int .u16 0], .int .i64 30])) := by
  refine (readRange_any s hs W hV).mono ?_
  rintro e w' ⟨hF, ⟨a, n, ha, hn, h, rfl⟩ | ⟨h, rfl⟩⟩
  · refine ⟨hF, .inl ⟨a, n, rfl, fun W' hV' => ?_⟩⟩
    have := rangeText_yes a n ha hn W' hV'
    rwa [str_is h] at this
  · exact ⟨hF, .inr rfl⟩
theorem rtext_zero (W : World) (hV : VV W) : Calls Tryd.prog 14 #[.agg #[.int .u16 0, .int .u16 0]] W fun e w' => e = .returned (.tuple #[.string ⟨(rtext 0 0).toArray⟩, .int .i64 0]) ∧ Fr [] W w' :=
  rangeText_yes 0 0 (by decide) (by decide) W hV
theorem readK_two (s : ByteArray) (hs : s.size ≤ 281474976710656) (W : World) (hV : VV W) : Calls Tryd.prog 15 #[.string s] W fun e w' => Fr [] W w' ∧
    ((∃ k a b p q : Nat, e = .returned (.tuple #[.agg #[.int .u8 k, .int .u32 a, .int .u32 b, .int .u16 p, .int .u16 q], .int .i64 0]) ∧ ∀ W', VV W' → Calls Tryd.prog 16 #[.agg #[.int .u8 k, .int .u32 a, .int .u32 b, .int .u16 p, .int .u16 q]] W' fun e w'' => e = .returned (.string s) ∧ Fr [] W' w'') ∨ e = .returned (.tuple #[.agg #[.int .u8 0, .int .u32 0, .int .u32 0, .int .u16 0, .int .u16 0], .int .i64 30])) := by
  refine (readKey_any s hs W hV).mono ?_
  rintro e w' ⟨hF, ⟨k, a, b, p, q, H, h, rfl⟩ | ⟨h, rfl⟩⟩
  · refine ⟨hF, .inl ⟨k, a, b, p, q, rfl, fun W' hV' => ?_⟩⟩
    have := keyText_any k a b p q H W' hV'
    rwa [str_is h] at this
  · exact ⟨hF, .inr rfl⟩

set_option maxHeartbeats 8000000 in
theorem reads_any (s : ByteArray) (hs : s.size ≤ 281474976710656) (w : World) (hV : VV w) : Calls Tryd.prog 4 #[.string s] w fun e w' => e = .returned (.bool true) ∧ Fr [] w w' := by
  go_enter Tryd.func4, Tryd.ntmps4
  go_wp2_with fail
  refine (awake_any _ hV).mono ?_
  rintro e w1 ⟨rfl, hF⟩
  have hV1 := hV.fr hF
  go_wp2_with fail
  refine (read_two s hs _ hV1).mono ?_
  rintro e w2 ⟨hF2, ⟨a, rfl, hT⟩ | rfl⟩
  · replace hF := hF.trans hF2
    replace hV1 := hV.fr hF
    go_wp2_with fail
    refine (hT _ hV1).mono ?_
    rintro e w3 ⟨rfl, hF3⟩
    replace hF := hF.trans hF3
    replace hV1 := hV.fr hF
    clear hT hF2 hF3
    go_wp2_with fail
    refine (readP_two s hs _ hV1).mono ?_
    rintro e w4 ⟨hF4, ⟨b, n, rfl, hT⟩ | rfl⟩
    · replace hF := (hF.trans hF4).alloc (.cells #[.int .u32 b, .int .u8 n] 35)
      replace hV1 := hV.fr hF
      clear hF4
      have q0 := new_cell w4 #[Value.int .u32 b, Value.int .u8 n] 35 0 _ rfl
      have q1 := new_cell w4 #[Value.int .u32 b, Value.int .u8 n] 35 1 _ rfl
      go_wp2_with fail
      generalize w4.alloc (.cells #[.int .u32 b, .int .u8 n] 35) = w5 at hF hV1 q0 q1 ⊢
      generalize w4.heap.size = g5 at q0 q1 ⊢
      refine (hT _ hV1).mono ?_
      rintro e w6 ⟨rfl, hF6⟩
      replace hF := hF.trans hF6
      replace hV1 := hV.fr hF
      replace q0 := hF6.cell q0 (by simp)
      replace q1 := hF6.cell q1 (by simp)
      clear hF6
      clear hT
      go_wp2_with fail
      clear q0 q1
      refine (readR_two s hs _ hV1).mono ?_
      rintro e w4 ⟨hF4, ⟨c, d, rfl, hT⟩ | rfl⟩
      · replace hF := (hF.trans hF4).alloc (.cells #[.int .u16 c, .int .u16 d] 41)
        replace hV1 := hV.fr hF
        clear hF4
        have q0 := new_cell w4 #[Value.int .u16 c, Value.int .u16 d] 41 0 _ rfl
        have q1 := new_cell w4 #[Value.int .u16 c, Value.int .u16 d] 41 1 _ rfl
        go_wp2_with fail
        generalize w4.alloc (.cells #[.int .u16 c, .int .u16 d] 41) = w5 at hF hV1 q0 q1 ⊢
        generalize w4.heap.size = g5 at q0 q1 ⊢
        refine (hT _ hV1).mono ?_
        rintro e w6 ⟨rfl, hF6⟩
        replace hF := hF.trans hF6
        replace hV1 := hV.fr hF
        replace q0 := hF6.cell q0 (by simp)
        replace q1 := hF6.cell q1 (by simp)
        clear hF6
        clear hT
        go_wp2_with fail
        clear q0 q1
        refine (readK_two s hs _ hV1).mono ?_
        rintro e w4 ⟨hF4, ⟨k, a, b, p, q, rfl, hT⟩ | rfl⟩
        · replace hF := (hF.trans hF4).alloc (.cells #[.int .u8 k, .int .u32 a, .int .u32 b, .int .u16 p, .int .u16 q] 25)
          replace hV1 := hV.fr hF
          clear hF4
          have q0 := new_cell w4 #[Value.int .u8 k, Value.int .u32 a, Value.int .u32 b, Value.int .u16 p, Value.int .u16 q] 25 0 _ rfl
          have q1 := new_cell w4 #[Value.int .u8 k, Value.int .u32 a, Value.int .u32 b, Value.int .u16 p, Value.int .u16 q] 25 1 _ rfl
          have q2 := new_cell w4 #[Value.int .u8 k, Value.int .u32 a, Value.int .u32 b, Value.int .u16 p, Value.int .u16 q] 25 2 _ rfl
          have q3 := new_cell w4 #[Value.int .u8 k, Value.int .u32 a, Value.int .u32 b, Value.int .u16 p, Value.int .u16 q] 25 3 _ rfl
          have q4 := new_cell w4 #[Value.int .u8 k, Value.int .u32 a, Value.int .u32 b, Value.int .u16 p, Value.int .u16 q] 25 4 _ rfl
          go_wp2_with fail
          refine (hT _ hV1).mono ?_
          rintro e w6 ⟨rfl, hF6⟩
          go_wp2_with fail
          go_ret
          exact ⟨rfl, hF.trans hF6⟩
        · replace hF := (hF.trans hF4).alloc (.cells #[.int .u8 0, .int .u32 0, .int .u32 0, .int .u16 0, .int .u16 0] 25)
          replace hV1 := hV.fr hF
          clear hF4
          have q0 := new_cell w4 #[Value.int .u8 0, Value.int .u32 0, Value.int .u32 0, Value.int .u16 0, Value.int .u16 0] 25 0 _ rfl
          have q1 := new_cell w4 #[Value.int .u8 0, Value.int .u32 0, Value.int .u32 0, Value.int .u16 0, Value.int .u16 0] 25 1 _ rfl
          have q2 := new_cell w4 #[Value.int .u8 0, Value.int .u32 0, Value.int .u32 0, Value.int .u16 0, Value.int .u16 0] 25 2 _ rfl
          have q3 := new_cell w4 #[Value.int .u8 0, Value.int .u32 0, Value.int .u32 0, Value.int .u16 0, Value.int .u16 0] 25 3 _ rfl
          have q4 := new_cell w4 #[Value.int .u8 0, Value.int .u32 0, Value.int .u32 0, Value.int .u16 0, Value.int .u16 0] 25 4 _ rfl
          go_wp2_with fail
          go_ret
          exact ⟨rfl, hF⟩
      · replace hF := (hF.trans hF4).alloc (.cells #[.int .u16 0, .int .u16 0] 41)
        replace hV1 := hV.fr hF
        clear hF4
        have q0 := new_cell w4 #[Value.int .u16 0, Value.int .u16 0] 41 0 _ rfl
        have q1 := new_cell w4 #[Value.int .u16 0, Value.int .u16 0] 41 1 _ rfl
        go_wp2_with fail
        generalize w4.alloc (.cells #[.int .u16 0, .int .u16 0] 41) = w5 at hF hV1 q0 q1 ⊢
        generalize w4.heap.size = g5 at q0 q1 ⊢
        refine (rtext_zero _ hV1).mono ?_
        rintro e w6 ⟨rfl, hF6⟩
        replace hF := hF.trans hF6
        replace hV1 := hV.fr hF
        replace q0 := hF6.cell q0 (by simp)
        replace q1 := hF6.cell q1 (by simp)
        clear hF6
        go_wp2_with fail
        clear q0 q1
        refine (readK_two s hs _ hV1).mono ?_
        rintro e w4 ⟨hF4, ⟨k, a, b, p, q, rfl, hT⟩ | rfl⟩
        · replace hF := (hF.trans hF4).alloc (.cells #[.int .u8 k, .int .u32 a, .int .u32 b, .int .u16 p, .int .u16 q] 25)
          replace hV1 := hV.fr hF
          clear hF4
          have q0 := new_cell w4 #[Value.int .u8 k, Value.int .u32 a, Value.int .u32 b, Value.int .u16 p, Value.int .u16 q] 25 0 _ rfl
          have q1 := new_cell w4 #[Value.int .u8 k, Value.int .u32 a, Value.int .u32 b, Value.int .u16 p, Value.int .u16 q] 25 1 _ rfl
          have q2 := new_cell w4 #[Value.int .u8 k, Value.int .u32 a, Value.int .u32 b, Value.int .u16 p, Value.int .u16 q] 25 2 _ rfl
          have q3 := new_cell w4 #[Value.int .u8 k, Value.int .u32 a, Value.int .u32 b, Value.int .u16 p, Value.int .u16 q] 25 3 _ rfl
          have q4 := new_cell w4 #[Value.int .u8 k, Value.int .u32 a, Value.int .u32 b, Value.int .u16 p, Value.int .u16 q] 25 4 _ rfl
          go_wp2_with fail
          refine (hT _ hV1).mono ?_
          rintro e w6 ⟨rfl, hF6⟩
          go_wp2_with fail
          go_ret
          exact ⟨rfl, hF.trans hF6⟩
        · replace hF := (hF.trans hF4).alloc (.cells #[.int .u8 0, .int .u32 0, .int .u32 0, .int .u16 0, .int .u16 0] 25)
          replace hV1 := hV.fr hF
          clear hF4
          have q0 := new_cell w4 #[Value.int .u8 0, Value.int .u32 0, Value.int .u32 0, Value.int .u16 0, Value.int .u16 0] 25 0 _ rfl
          have q1 := new_cell w4 #[Value.int .u8 0, Value.int .u32 0, Value.int .u32 0, Value.int .u16 0, Value.int .u16 0] 25 1 _ rfl
          have q2 := new_cell w4 #[Value.int .u8 0, Value.int .u32 0, Value.int .u32 0, Value.int .u16 0, Value.int .u16 0] 25 2 _ rfl
          have q3 := new_cell w4 #[Value.int .u8 0, Value.int .u32 0, Value.int .u32 0, Value.int .u16 0, Value.int .u16 0] 25 3 _ rfl
          have q4 := new_cell w4 #[Value.int .u8 0, Value.int .u32 0, Value.int .u32 0, Value.int .u16 0, Value.int .u16 0] 25 4 _ rfl
          go_wp2_with fail
          go_ret
          exact ⟨rfl, hF⟩
    · replace hF := (hF.trans hF4).alloc (.cells #[.int .u32 0, .int .u8 0] 35)
      replace hV1 := hV.fr hF
      clear hF4
      have q0 := new_cell w4 #[Value.int .u32 0, Value.int .u8 0] 35 0 _ rfl
      have q1 := new_cell w4 #[Value.int .u32 0, Value.int .u8 0] 35 1 _ rfl
      go_wp2_with fail
      generalize w4.alloc (.cells #[.int .u32 0, .int .u8 0] 35) = w5 at hF hV1 q0 q1 ⊢
      generalize w4.heap.size = g5 at q0 q1 ⊢
      refine (ptext_zero _ hV1).mono ?_
      rintro e w6 ⟨rfl, hF6⟩
      replace hF := hF.trans hF6
      replace hV1 := hV.fr hF
      replace q0 := hF6.cell q0 (by simp)
      replace q1 := hF6.cell q1 (by simp)
      clear hF6
      go_wp2_with fail
      clear q0 q1
      refine (readR_two s hs _ hV1).mono ?_
      rintro e w4 ⟨hF4, ⟨c, d, rfl, hT⟩ | rfl⟩
      · replace hF := (hF.trans hF4).alloc (.cells #[.int .u16 c, .int .u16 d] 41)
        replace hV1 := hV.fr hF
        clear hF4
        have q0 := new_cell w4 #[Value.int .u16 c, Value.int .u16 d] 41 0 _ rfl
        have q1 := new_cell w4 #[Value.int .u16 c, Value.int .u16 d] 41 1 _ rfl
        go_wp2_with fail
        generalize w4.alloc (.cells #[.int .u16 c, .int .u16 d] 41) = w5 at hF hV1 q0 q1 ⊢
        generalize w4.heap.size = g5 at q0 q1 ⊢
        refine (hT _ hV1).mono ?_
        rintro e w6 ⟨rfl, hF6⟩
        replace hF := hF.trans hF6
        replace hV1 := hV.fr hF
        replace q0 := hF6.cell q0 (by simp)
        replace q1 := hF6.cell q1 (by simp)
        clear hF6
        clear hT
        go_wp2_with fail
        clear q0 q1
        refine (readK_two s hs _ hV1).mono ?_
        rintro e w4 ⟨hF4, ⟨k, a, b, p, q, rfl, hT⟩ | rfl⟩
        · replace hF := (hF.trans hF4).alloc (.cells #[.int .u8 k, .int .u32 a, .int .u32 b, .int .u16 p, .int .u16 q] 25)
          replace hV1 := hV.fr hF
          clear hF4
          have q0 := new_cell w4 #[Value.int .u8 k, Value.int .u32 a, Value.int .u32 b, Value.int .u16 p, Value.int .u16 q] 25 0 _ rfl
          have q1 := new_cell w4 #[Value.int .u8 k, Value.int .u32 a, Value.int .u32 b, Value.int .u16 p, Value.int .u16 q] 25 1 _ rfl
          have q2 := new_cell w4 #[Value.int .u8 k, Value.int .u32 a, Value.int .u32 b, Value.int .u16 p, Value.int .u16 q] 25 2 _ rfl
          have q3 := new_cell w4 #[Value.int .u8 k, Value.int .u32 a, Value.int .u32 b, Value.int .u16 p, Value.int .u16 q] 25 3 _ rfl
          have q4 := new_cell w4 #[Value.int .u8 k, Value.int .u32 a, Value.int .u32 b, Value.int .u16 p, Value.int .u16 q] 25 4 _ rfl
          go_wp2_with fail
          refine (hT _ hV1).mono ?_
          rintro e w6 ⟨rfl, hF6⟩
          go_wp2_with fail
          go_ret
          exact ⟨rfl, hF.trans hF6⟩
        · replace hF := (hF.trans hF4).alloc (.cells #[.int .u8 0, .int .u32 0, .int .u32 0, .int .u16 0, .int .u16 0] 25)
          replace hV1 := hV.fr hF
          clear hF4
          have q0 := new_cell w4 #[Value.int .u8 0, Value.int .u32 0, Value.int .u32 0, Value.int .u16 0, Value.int .u16 0] 25 0 _ rfl
          have q1 := new_cell w4 #[Value.int .u8 0, Value.int .u32 0, Value.int .u32 0, Value.int .u16 0, Value.int .u16 0] 25 1 _ rfl
          have q2 := new_cell w4 #[Value.int .u8 0, Value.int .u32 0, Value.int .u32 0, Value.int .u16 0, Value.int .u16 0] 25 2 _ rfl
          have q3 := new_cell w4 #[Value.int .u8 0, Value.int .u32 0, Value.int .u32 0, Value.int .u16 0, Value.int .u16 0] 25 3 _ rfl
          have q4 := new_cell w4 #[Value.int .u8 0, Value.int .u32 0, Value.int .u32 0, Value.int .u16 0, Value.int .u16 0] 25 4 _ rfl
          go_wp2_with fail
          go_ret
          exact ⟨rfl, hF⟩
      · replace hF := (hF.trans hF4).alloc (.cells #[.int .u16 0, .int .u16 0] 41)
        replace hV1 := hV.fr hF
        clear hF4
        have q0 := new_cell w4 #[Value.int .u16 0, Value.int .u16 0] 41 0 _ rfl
        have q1 := new_cell w4 #[Value.int .u16 0, Value.int .u16 0] 41 1 _ rfl
        go_wp2_with fail
        generalize w4.alloc (.cells #[.int .u16 0, .int .u16 0] 41) = w5 at hF hV1 q0 q1 ⊢
        generalize w4.heap.size = g5 at q0 q1 ⊢
        refine (rtext_zero _ hV1).mono ?_
        rintro e w6 ⟨rfl, hF6⟩
        replace hF := hF.trans hF6
        replace hV1 := hV.fr hF
        replace q0 := hF6.cell q0 (by simp)
        replace q1 := hF6.cell q1 (by simp)
        clear hF6
        go_wp2_with fail
        clear q0 q1
        refine (readK_two s hs _ hV1).mono ?_
        rintro e w4 ⟨hF4, ⟨k, a, b, p, q, rfl, hT⟩ | rfl⟩
        · replace hF := (hF.trans hF4).alloc (.cells #[.int .u8 k, .int .u32 a, .int .u32 b, .int .u16 p, .int .u16 q] 25)
          replace hV1 := hV.fr hF
          clear hF4
          have q0 := new_cell w4 #[Value.int .u8 k, Value.int .u32 a, Value.int .u32 b, Value.int .u16 p, Value.int .u16 q] 25 0 _ rfl
          have q1 := new_cell w4 #[Value.int .u8 k, Value.int .u32 a, Value.int .u32 b, Value.int .u16 p, Value.int .u16 q] 25 1 _ rfl
          have q2 := new_cell w4 #[Value.int .u8 k, Value.int .u32 a, Value.int .u32 b, Value.int .u16 p, Value.int .u16 q] 25 2 _ rfl
          have q3 := new_cell w4 #[Value.int .u8 k, Value.int .u32 a, Value.int .u32 b, Value.int .u16 p, Value.int .u16 q] 25 3 _ rfl
          have q4 := new_cell w4 #[Value.int .u8 k, Value.int .u32 a, Value.int .u32 b, Value.int .u16 p, Value.int .u16 q] 25 4 _ rfl
          go_wp2_with fail
          refine (hT _ hV1).mono ?_
          rintro e w6 ⟨rfl, hF6⟩
          go_wp2_with fail
          go_ret
          exact ⟨rfl, hF.trans hF6⟩
        · replace hF := (hF.trans hF4).alloc (.cells #[.int .u8 0, .int .u32 0, .int .u32 0, .int .u16 0, .int .u16 0] 25)
          replace hV1 := hV.fr hF
          clear hF4
          have q0 := new_cell w4 #[Value.int .u8 0, Value.int .u32 0, Value.int .u32 0, Value.int .u16 0, Value.int .u16 0] 25 0 _ rfl
          have q1 := new_cell w4 #[Value.int .u8 0, Value.int .u32 0, Value.int .u32 0, Value.int .u16 0, Value.int .u16 0] 25 1 _ rfl
          have q2 := new_cell w4 #[Value.int .u8 0, Value.int .u32 0, Value.int .u32 0, Value.int .u16 0, Value.int .u16 0] 25 2 _ rfl
          have q3 := new_cell w4 #[Value.int .u8 0, Value.int .u32 0, Value.int .u32 0, Value.int .u16 0, Value.int .u16 0] 25 3 _ rfl
          have q4 := new_cell w4 #[Value.int .u8 0, Value.int .u32 0, Value.int .u32 0, Value.int .u16 0, Value.int .u16 0] 25 4 _ rfl
          go_wp2_with fail
          go_ret
          exact ⟨rfl, hF⟩
  · replace hF := hF.trans hF2
    replace hV1 := hV.fr hF
    clear hF2
    go_wp2_with fail
    refine (readP_two s hs _ hV1).mono ?_
    rintro e w4 ⟨hF4, ⟨b, n, rfl, hT⟩ | rfl⟩
    · replace hF := (hF.trans hF4).alloc (.cells #[.int .u32 b, .int .u8 n] 35)
      replace hV1 := hV.fr hF
      clear hF4
      have q0 := new_cell w4 #[Value.int .u32 b, Value.int .u8 n] 35 0 _ rfl
      have q1 := new_cell w4 #[Value.int .u32 b, Value.int .u8 n] 35 1 _ rfl
      go_wp2_with fail
      generalize w4.alloc (.cells #[.int .u32 b, .int .u8 n] 35) = w5 at hF hV1 q0 q1 ⊢
      generalize w4.heap.size = g5 at q0 q1 ⊢
      refine (hT _ hV1).mono ?_
      rintro e w6 ⟨rfl, hF6⟩
      replace hF := hF.trans hF6
      replace hV1 := hV.fr hF
      replace q0 := hF6.cell q0 (by simp)
      replace q1 := hF6.cell q1 (by simp)
      clear hF6
      clear hT
      go_wp2_with fail
      clear q0 q1
      refine (readR_two s hs _ hV1).mono ?_
      rintro e w4 ⟨hF4, ⟨c, d, rfl, hT⟩ | rfl⟩
      · replace hF := (hF.trans hF4).alloc (.cells #[.int .u16 c, .int .u16 d] 41)
        replace hV1 := hV.fr hF
        clear hF4
        have q0 := new_cell w4 #[Value.int .u16 c, Value.int .u16 d] 41 0 _ rfl
        have q1 := new_cell w4 #[Value.int .u16 c, Value.int .u16 d] 41 1 _ rfl
        go_wp2_with fail
        generalize w4.alloc (.cells #[.int .u16 c, .int .u16 d] 41) = w5 at hF hV1 q0 q1 ⊢
        generalize w4.heap.size = g5 at q0 q1 ⊢
        refine (hT _ hV1).mono ?_
        rintro e w6 ⟨rfl, hF6⟩
        replace hF := hF.trans hF6
        replace hV1 := hV.fr hF
        replace q0 := hF6.cell q0 (by simp)
        replace q1 := hF6.cell q1 (by simp)
        clear hF6
        clear hT
        go_wp2_with fail
        clear q0 q1
        refine (readK_two s hs _ hV1).mono ?_
        rintro e w4 ⟨hF4, ⟨k, a, b, p, q, rfl, hT⟩ | rfl⟩
        · replace hF := (hF.trans hF4).alloc (.cells #[.int .u8 k, .int .u32 a, .int .u32 b, .int .u16 p, .int .u16 q] 25)
          replace hV1 := hV.fr hF
          clear hF4
          have q0 := new_cell w4 #[Value.int .u8 k, Value.int .u32 a, Value.int .u32 b, Value.int .u16 p, Value.int .u16 q] 25 0 _ rfl
          have q1 := new_cell w4 #[Value.int .u8 k, Value.int .u32 a, Value.int .u32 b, Value.int .u16 p, Value.int .u16 q] 25 1 _ rfl
          have q2 := new_cell w4 #[Value.int .u8 k, Value.int .u32 a, Value.int .u32 b, Value.int .u16 p, Value.int .u16 q] 25 2 _ rfl
          have q3 := new_cell w4 #[Value.int .u8 k, Value.int .u32 a, Value.int .u32 b, Value.int .u16 p, Value.int .u16 q] 25 3 _ rfl
          have q4 := new_cell w4 #[Value.int .u8 k, Value.int .u32 a, Value.int .u32 b, Value.int .u16 p, Value.int .u16 q] 25 4 _ rfl
          go_wp2_with fail
          refine (hT _ hV1).mono ?_
          rintro e w6 ⟨rfl, hF6⟩
          go_wp2_with fail
          go_ret
          exact ⟨rfl, hF.trans hF6⟩
        · replace hF := (hF.trans hF4).alloc (.cells #[.int .u8 0, .int .u32 0, .int .u32 0, .int .u16 0, .int .u16 0] 25)
          replace hV1 := hV.fr hF
          clear hF4
          have q0 := new_cell w4 #[Value.int .u8 0, Value.int .u32 0, Value.int .u32 0, Value.int .u16 0, Value.int .u16 0] 25 0 _ rfl
          have q1 := new_cell w4 #[Value.int .u8 0, Value.int .u32 0, Value.int .u32 0, Value.int .u16 0, Value.int .u16 0] 25 1 _ rfl
          have q2 := new_cell w4 #[Value.int .u8 0, Value.int .u32 0, Value.int .u32 0, Value.int .u16 0, Value.int .u16 0] 25 2 _ rfl
          have q3 := new_cell w4 #[Value.int .u8 0, Value.int .u32 0, Value.int .u32 0, Value.int .u16 0, Value.int .u16 0] 25 3 _ rfl
          have q4 := new_cell w4 #[Value.int .u8 0, Value.int .u32 0, Value.int .u32 0, Value.int .u16 0, Value.int .u16 0] 25 4 _ rfl
          go_wp2_with fail
          go_ret
          exact ⟨rfl, hF⟩
      · replace hF := (hF.trans hF4).alloc (.cells #[.int .u16 0, .int .u16 0] 41)
        replace hV1 := hV.fr hF
        clear hF4
        have q0 := new_cell w4 #[Value.int .u16 0, Value.int .u16 0] 41 0 _ rfl
        have q1 := new_cell w4 #[Value.int .u16 0, Value.int .u16 0] 41 1 _ rfl
        go_wp2_with fail
        generalize w4.alloc (.cells #[.int .u16 0, .int .u16 0] 41) = w5 at hF hV1 q0 q1 ⊢
        generalize w4.heap.size = g5 at q0 q1 ⊢
        refine (rtext_zero _ hV1).mono ?_
        rintro e w6 ⟨rfl, hF6⟩
        replace hF := hF.trans hF6
        replace hV1 := hV.fr hF
        replace q0 := hF6.cell q0 (by simp)
        replace q1 := hF6.cell q1 (by simp)
        clear hF6
        go_wp2_with fail
        clear q0 q1
        refine (readK_two s hs _ hV1).mono ?_
        rintro e w4 ⟨hF4, ⟨k, a, b, p, q, rfl, hT⟩ | rfl⟩
        · replace hF := (hF.trans hF4).alloc (.cells #[.int .u8 k, .int .u32 a, .int .u32 b, .int .u16 p, .int .u16 q] 25)
          replace hV1 := hV.fr hF
          clear hF4
          have q0 := new_cell w4 #[Value.int .u8 k, Value.int .u32 a, Value.int .u32 b, Value.int .u16 p, Value.int .u16 q] 25 0 _ rfl
          have q1 := new_cell w4 #[Value.int .u8 k, Value.int .u32 a, Value.int .u32 b, Value.int .u16 p, Value.int .u16 q] 25 1 _ rfl
          have q2 := new_cell w4 #[Value.int .u8 k, Value.int .u32 a, Value.int .u32 b, Value.int .u16 p, Value.int .u16 q] 25 2 _ rfl
          have q3 := new_cell w4 #[Value.int .u8 k, Value.int .u32 a, Value.int .u32 b, Value.int .u16 p, Value.int .u16 q] 25 3 _ rfl
          have q4 := new_cell w4 #[Value.int .u8 k, Value.int .u32 a, Value.int .u32 b, Value.int .u16 p, Value.int .u16 q] 25 4 _ rfl
          go_wp2_with fail
          refine (hT _ hV1).mono ?_
          rintro e w6 ⟨rfl, hF6⟩
          go_wp2_with fail
          go_ret
          exact ⟨rfl, hF.trans hF6⟩
        · replace hF := (hF.trans hF4).alloc (.cells #[.int .u8 0, .int .u32 0, .int .u32 0, .int .u16 0, .int .u16 0] 25)
          replace hV1 := hV.fr hF
          clear hF4
          have q0 := new_cell w4 #[Value.int .u8 0, Value.int .u32 0, Value.int .u32 0, Value.int .u16 0, Value.int .u16 0] 25 0 _ rfl
          have q1 := new_cell w4 #[Value.int .u8 0, Value.int .u32 0, Value.int .u32 0, Value.int .u16 0, Value.int .u16 0] 25 1 _ rfl
          have q2 := new_cell w4 #[Value.int .u8 0, Value.int .u32 0, Value.int .u32 0, Value.int .u16 0, Value.int .u16 0] 25 2 _ rfl
          have q3 := new_cell w4 #[Value.int .u8 0, Value.int .u32 0, Value.int .u32 0, Value.int .u16 0, Value.int .u16 0] 25 3 _ rfl
          have q4 := new_cell w4 #[Value.int .u8 0, Value.int .u32 0, Value.int .u32 0, Value.int .u16 0, Value.int .u16 0] 25 4 _ rfl
          go_wp2_with fail
          go_ret
          exact ⟨rfl, hF⟩
    · replace hF := (hF.trans hF4).alloc (.cells #[.int .u32 0, .int .u8 0] 35)
      replace hV1 := hV.fr hF
      clear hF4
      have q0 := new_cell w4 #[Value.int .u32 0, Value.int .u8 0] 35 0 _ rfl
      have q1 := new_cell w4 #[Value.int .u32 0, Value.int .u8 0] 35 1 _ rfl
      go_wp2_with fail
      generalize w4.alloc (.cells #[.int .u32 0, .int .u8 0] 35) = w5 at hF hV1 q0 q1 ⊢
      generalize w4.heap.size = g5 at q0 q1 ⊢
      refine (ptext_zero _ hV1).mono ?_
      rintro e w6 ⟨rfl, hF6⟩
      replace hF := hF.trans hF6
      replace hV1 := hV.fr hF
      replace q0 := hF6.cell q0 (by simp)
      replace q1 := hF6.cell q1 (by simp)
      clear hF6
      go_wp2_with fail
      clear q0 q1
      refine (readR_two s hs _ hV1).mono ?_
      rintro e w4 ⟨hF4, ⟨c, d, rfl, hT⟩ | rfl⟩
      · replace hF := (hF.trans hF4).alloc (.cells #[.int .u16 c, .int .u16 d] 41)
        replace hV1 := hV.fr hF
        clear hF4
        have q0 := new_cell w4 #[Value.int .u16 c, Value.int .u16 d] 41 0 _ rfl
        have q1 := new_cell w4 #[Value.int .u16 c, Value.int .u16 d] 41 1 _ rfl
        go_wp2_with fail
        generalize w4.alloc (.cells #[.int .u16 c, .int .u16 d] 41) = w5 at hF hV1 q0 q1 ⊢
        generalize w4.heap.size = g5 at q0 q1 ⊢
        refine (hT _ hV1).mono ?_
        rintro e w6 ⟨rfl, hF6⟩
        replace hF := hF.trans hF6
        replace hV1 := hV.fr hF
        replace q0 := hF6.cell q0 (by simp)
        replace q1 := hF6.cell q1 (by simp)
        clear hF6
        clear hT
        go_wp2_with fail
        clear q0 q1
        refine (readK_two s hs _ hV1).mono ?_
        rintro e w4 ⟨hF4, ⟨k, a, b, p, q, rfl, hT⟩ | rfl⟩
        · replace hF := (hF.trans hF4).alloc (.cells #[.int .u8 k, .int .u32 a, .int .u32 b, .int .u16 p, .int .u16 q] 25)
          replace hV1 := hV.fr hF
          clear hF4
          have q0 := new_cell w4 #[Value.int .u8 k, Value.int .u32 a, Value.int .u32 b, Value.int .u16 p, Value.int .u16 q] 25 0 _ rfl
          have q1 := new_cell w4 #[Value.int .u8 k, Value.int .u32 a, Value.int .u32 b, Value.int .u16 p, Value.int .u16 q] 25 1 _ rfl
          have q2 := new_cell w4 #[Value.int .u8 k, Value.int .u32 a, Value.int .u32 b, Value.int .u16 p, Value.int .u16 q] 25 2 _ rfl
          have q3 := new_cell w4 #[Value.int .u8 k, Value.int .u32 a, Value.int .u32 b, Value.int .u16 p, Value.int .u16 q] 25 3 _ rfl
          have q4 := new_cell w4 #[Value.int .u8 k, Value.int .u32 a, Value.int .u32 b, Value.int .u16 p, Value.int .u16 q] 25 4 _ rfl
          go_wp2_with fail
          refine (hT _ hV1).mono ?_
          rintro e w6 ⟨rfl, hF6⟩
          go_wp2_with fail
          go_ret
          exact ⟨rfl, hF.trans hF6⟩
        · replace hF := (hF.trans hF4).alloc (.cells #[.int .u8 0, .int .u32 0, .int .u32 0, .int .u16 0, .int .u16 0] 25)
          replace hV1 := hV.fr hF
          clear hF4
          have q0 := new_cell w4 #[Value.int .u8 0, Value.int .u32 0, Value.int .u32 0, Value.int .u16 0, Value.int .u16 0] 25 0 _ rfl
          have q1 := new_cell w4 #[Value.int .u8 0, Value.int .u32 0, Value.int .u32 0, Value.int .u16 0, Value.int .u16 0] 25 1 _ rfl
          have q2 := new_cell w4 #[Value.int .u8 0, Value.int .u32 0, Value.int .u32 0, Value.int .u16 0, Value.int .u16 0] 25 2 _ rfl
          have q3 := new_cell w4 #[Value.int .u8 0, Value.int .u32 0, Value.int .u32 0, Value.int .u16 0, Value.int .u16 0] 25 3 _ rfl
          have q4 := new_cell w4 #[Value.int .u8 0, Value.int .u32 0, Value.int .u32 0, Value.int .u16 0, Value.int .u16 0] 25 4 _ rfl
          go_wp2_with fail
          go_ret
          exact ⟨rfl, hF⟩
      · replace hF := (hF.trans hF4).alloc (.cells #[.int .u16 0, .int .u16 0] 41)
        replace hV1 := hV.fr hF
        clear hF4
        have q0 := new_cell w4 #[Value.int .u16 0, Value.int .u16 0] 41 0 _ rfl
        have q1 := new_cell w4 #[Value.int .u16 0, Value.int .u16 0] 41 1 _ rfl
        go_wp2_with fail
        generalize w4.alloc (.cells #[.int .u16 0, .int .u16 0] 41) = w5 at hF hV1 q0 q1 ⊢
        generalize w4.heap.size = g5 at q0 q1 ⊢
        refine (rtext_zero _ hV1).mono ?_
        rintro e w6 ⟨rfl, hF6⟩
        replace hF := hF.trans hF6
        replace hV1 := hV.fr hF
        replace q0 := hF6.cell q0 (by simp)
        replace q1 := hF6.cell q1 (by simp)
        clear hF6
        go_wp2_with fail
        clear q0 q1
        refine (readK_two s hs _ hV1).mono ?_
        rintro e w4 ⟨hF4, ⟨k, a, b, p, q, rfl, hT⟩ | rfl⟩
        · replace hF := (hF.trans hF4).alloc (.cells #[.int .u8 k, .int .u32 a, .int .u32 b, .int .u16 p, .int .u16 q] 25)
          replace hV1 := hV.fr hF
          clear hF4
          have q0 := new_cell w4 #[Value.int .u8 k, Value.int .u32 a, Value.int .u32 b, Value.int .u16 p, Value.int .u16 q] 25 0 _ rfl
          have q1 := new_cell w4 #[Value.int .u8 k, Value.int .u32 a, Value.int .u32 b, Value.int .u16 p, Value.int .u16 q] 25 1 _ rfl
          have q2 := new_cell w4 #[Value.int .u8 k, Value.int .u32 a, Value.int .u32 b, Value.int .u16 p, Value.int .u16 q] 25 2 _ rfl
          have q3 := new_cell w4 #[Value.int .u8 k, Value.int .u32 a, Value.int .u32 b, Value.int .u16 p, Value.int .u16 q] 25 3 _ rfl
          have q4 := new_cell w4 #[Value.int .u8 k, Value.int .u32 a, Value.int .u32 b, Value.int .u16 p, Value.int .u16 q] 25 4 _ rfl
          go_wp2_with fail
          refine (hT _ hV1).mono ?_
          rintro e w6 ⟨rfl, hF6⟩
          go_wp2_with fail
          go_ret
          exact ⟨rfl, hF.trans hF6⟩
        · replace hF := (hF.trans hF4).alloc (.cells #[.int .u8 0, .int .u32 0, .int .u32 0, .int .u16 0, .int .u16 0] 25)
          replace hV1 := hV.fr hF
          clear hF4
          have q0 := new_cell w4 #[Value.int .u8 0, Value.int .u32 0, Value.int .u32 0, Value.int .u16 0, Value.int .u16 0] 25 0 _ rfl
          have q1 := new_cell w4 #[Value.int .u8 0, Value.int .u32 0, Value.int .u32 0, Value.int .u16 0, Value.int .u16 0] 25 1 _ rfl
          have q2 := new_cell w4 #[Value.int .u8 0, Value.int .u32 0, Value.int .u32 0, Value.int .u16 0, Value.int .u16 0] 25 2 _ rfl
          have q3 := new_cell w4 #[Value.int .u8 0, Value.int .u32 0, Value.int .u32 0, Value.int .u16 0, Value.int .u16 0] 25 3 _ rfl
          have q4 := new_cell w4 #[Value.int .u8 0, Value.int .u32 0, Value.int .u32 0, Value.int .u16 0, Value.int .u16 0] 25 4 _ rfl
          go_wp2_with fail
          go_ret
          exact ⟨rfl, hF⟩
end Go.Proofs.YticopkegbiemjabDoor
