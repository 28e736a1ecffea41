/- The examples of the chapter: awake. -/
import Derived.Test.YteblkheodjibbaaDoorSame
import Derived.Test.YteblkheodjibbaaDoorKey
import Derived.Test.YteblkheodjibbaaDoorMeet
namespace Go.Proofs.YteblkheodjibbaaDoor
open Go.RowKit
set_option linter.unusedVariables false
set_option maxRecDepth 100000

theorem read_lit (W : World) (hV : VV W) : Calls Tryd.prog 6 #[.string ⟨#[49, 48, 46, 48, 46, 48, 46, 49]⟩] W fun e w' => e = .returned (.tuple #[.int .u32 167772161, .int .i64 0]) ∧ Fr [] W w' := by
  refine (read_any _ (by decide) W hV).mono ?_
  rintro e w' ⟨hF, ⟨a, ha, h, rfl⟩ | ⟨h, _⟩⟩
  · have : 167772161 = a := atext_inj (by decide) ha (a1001.trans h)
    subst this
    exact ⟨rfl, hF⟩
  · exact absurd a1001.symm (h _ (by decide))
theorem cut_lit (W : World) : Calls Tryd.prog 8 #[.int .u32 167838211, .int .u8 8] W fun e w' => e = .returned (.tuple #[.agg #[.int .u32 167772160, .int .u8 8], .int .i64 0]) ∧ Fr [] W w' := cut_yes 167838211 8 (by decide) (by decide) W
theorem ptext_lit (W : World) (hV : VV W) : Calls Tryd.prog 9 #[.agg #[.int .u32 167772160, .int .u8 8]] W fun e w' => e = .returned (.tuple #[.string ⟨#[49, 48, 46, 48, 46, 48, 46, 48, 47, 56]⟩, .int .i64 0]) ∧ Fr [] W w' := by
  have h := ptext_yes 167772160 8 (by decide) (by decide) (by decide) W hV
  rw [p10] at h
  exact h
theorem bounds_lit (W : World) : Calls Tryd.prog 16 #[.agg #[.int .u32 167772160, .int .u8 8]] W fun e w' => e = .returned (.tuple #[.int .u32 167772160, .int .u32 184549375, .int .i64 0]) ∧ Fr [] W w' := bounds_yes 167772160 8 (by decide) (by decide) (by decide) W
theorem textA_lit (W : World) (hV : VV W) : Calls Tryd.prog 7 #[.int .u32 167772161] W fun e w' => e = .returned (.string ⟨#[49, 48, 46, 48, 46, 48, 46, 49]⟩) ∧ Fr [] W w' := by
  have h := text_any 167772161 (by decide) W hV
  rw [a1001] at h
  exact h
theorem textB_lit (W : World) (hV : VV W) : Calls Tryd.prog 7 #[.int .u32 167838211] W fun e w' => e = .returned (.string ⟨#[49, 48, 46, 49, 46, 50, 46, 51]⟩) ∧ Fr [] W w' := by
  have h := text_any 167838211 (by decide) W hV
  rw [a1123] at h
  exact h
theorem has_lit (W : World) : Calls Tryd.prog 18 #[.agg #[.int .u32 167772160, .int .u8 8], .int .u32 184549375] W fun e w' => e = .returned (.bool true) ∧ Fr [] W w' := has_any 167772160 8 184549375 (by decide) (by decide) (by decide) W
theorem inside_lit (W : World) : Calls Tryd.prog 19 #[.agg #[.int .u32 167772160, .int .u8 8], .agg #[.int .u32 0, .int .u8 0]] W fun e w' => e = .returned (.bool true) ∧ Fr [] W w' := inside_any 167772160 8 0 0 (by decide) (by decide) (by decide) (by decide) W
theorem coverA_lit (W : World) (hV : VV W) : Calls Tryd.prog 15 #[.int .u32 167772161, .int .u32 167772166] W fun e w' => ∃ A c, e = .returned (.tuple #[.slice A 4 c, .int .i64 0]) ∧ Rd w' A (CP [(167772161, 32), (167772162, 31), (167772164, 31), (167772166, 32)]) ∧ (∀ ad, A = some ad → ad.block < w'.heap.size) ∧ Fr [] W w' := by
  refine (cover_yes 167772161 167772166 _ covA (by decide) W hV).mono ?_
  rintro e w' ⟨v, rfl, ho, hF⟩
  obtain ⟨A, c, rfl, _, _, hb⟩ := own_slice ho
  exact ⟨A, c, rfl, own_rd2 ho, fun ad h => (ho.lt _ (hb ad h)).2, hF⟩
theorem coverB_lit (W : World) (hV : VV W) : Calls Tryd.prog 15 #[.int .u32 0, .int .u32 4294967295] W fun e w' => ∃ g o c, e = .returned (.tuple #[.slice (some ⟨g, o, none⟩) 1 c, .int .i64 0]) ∧ w'.cell? ⟨g, o, none⟩ = some (.int .u32 0) ∧ w'.cell? ⟨g, o + 1, none⟩ = some (.int .u8 0) ∧ Fr [] W w' := by
  refine (cover_yes 0 4294967295 _ covB (by decide) W hV).mono ?_
  rintro e w' ⟨v, rfl, ho, hF⟩
  obtain ⟨A, c, rfl, _, _, hb⟩ := own_slice ho
  have hR := own_rd2 ho
  obtain ⟨g, o, rfl⟩ := rd_addr hR (by decide)
  exact ⟨g, o, c, rfl, rdc hR 0 _ rfl, rdc hR 1 _ rfl, hF⟩
theorem key_lit (W : World) (hV : VV W) : Calls Tryd.prog 12 #[.agg #[.int .u8 6, .int .u32 167772161, .int .u32 167772162, .int .u16 80, .int .u16 90]] W fun e w' => e = .returned (.string ⟨#[54, 32, 49, 48, 46, 48, 46, 48, 46, 49, 58, 56, 48, 32, 49, 48, 46, 48, 46, 48, 46, 50, 58, 57, 48]⟩) ∧ Fr [] W w' := by
  have h := keyText_any 6 167772161 167772162 80 90 ⟨by decide, by decide, by decide, by decide, by decide⟩ W hV
  rw [k1T] at h
  exact h
theorem key2_lit (W : World) (hV : VV W) : Calls Tryd.prog 12 #[.agg #[.int .u8 6, .int .u32 167772162, .int .u32 167772161, .int .u16 90, .int .u16 80]] W fun e w' => e = .returned (.string ⟨#[54, 32, 49, 48, 46, 48, 46, 48, 46, 50, 58, 57, 48, 32, 49, 48, 46, 48, 46, 48, 46, 49, 58, 56, 48]⟩) ∧ Fr [] W w' := by
  have h := keyText_any 6 167772162 167772161 90 80 ⟨by decide, by decide, by decide, by decide, by decide⟩ W hV
  rw [k2T] at h
  exact h
theorem turn_lit (W : World) : Calls Tryd.prog 21 #[.agg #[.int .u8 6, .int .u32 167772161, .int .u32 167772162, .int .u16 80, .int .u16 90]] W fun e w' => e = .returned (.agg #[.int .u8 6, .int .u32 167772162, .int .u32 167772161, .int .u16 90, .int .u16 80]) ∧ Fr [] W w' := turn_any 6 167772161 167772162 80 90 W

/-- The three reads of what is no text. -/
theorem read_bad (s : ByteArray) (hs : s.size ≤ 281474976710656) (hb : Bad s.data.toList) (W : World) (hV : VV W) : Calls Tryd.prog 6 #[.string s] W fun e w' => e = .returned (.tuple #[.int .u32 0, .int .i64 30]) ∧ Fr [] W w' := by
  refine (read_any s hs W hV).mono ?_
  rintro e w' ⟨hF, ⟨a, ha, h, _⟩ | ⟨_, rfl⟩⟩
  · exact absurd h (hb.1 a ha)
  · exact ⟨rfl, hF⟩
theorem readP_bad (s : ByteArray) (hs : s.size ≤ 281474976710656) (hb : Bad s.data.toList) (W : World) (hV : VV W) : Calls Tryd.prog 10 #[.string s] W fun e w' => e = .returned (.tuple #[.agg #[.int .u32 0, .int .u8 0], .int .i64 30]) ∧ Fr [] W w' := by
  refine (readPrefix_any s hs W hV).mono ?_
  rintro e w' ⟨hF, ⟨a, n, h1, h2, h3, h, _⟩ | ⟨_, rfl⟩⟩
  · exact absurd h (hb.2.1 a n h1 h2 h3)
  · exact ⟨rfl, hF⟩
theorem readR_bad (s : ByteArray) (hs : s.size ≤ 281474976710656) (hb : Bad s.data.toList) (W : World) (hV : VV W) : Calls Tryd.prog 14 #[.string s] W fun e w' => e = .returned (.tuple #[.agg #[.int .u16 0, .int .u16 0], .int .i64 30]) ∧ Fr [] W w' := by
  refine (readRange_any s hs W hV).mono ?_
  rintro e w' ⟨hF, ⟨a, n, h1, h2, h, _⟩ | ⟨_, rfl⟩⟩
  · exact absurd h (hb.2.2 a n h1 h2)
  · exact ⟨rfl, hF⟩

theorem rd_new' (w : World) (l : List Value) (t : TypeId) : Rd (w.alloc (.cells l.toArray t)) (some ⟨w.heap.size, 0, none⟩) l := fun j u hu => by
  refine ⟨_, rfl, ?_⟩
  rw [add_lit, Nat.zero_add, World.cell?_alloc_at _ _ _ _ rfl]
  simpa using hu
theorem bads (w : World) (t : TypeId) : ∀ k, k < 10 → ∃ s : ByteArray, (w.alloc (.cells #[.string ⟨#[49, 48, 46, 48, 46, 48, 46, 48, 49]⟩, .string ⟨#[49, 48, 46, 48, 46, 48]⟩, .string ⟨#[49, 48, 46, 48, 46, 48, 46, 50, 53, 54]⟩, .string ⟨#[49, 48, 46, 48, 46, 48, 46, 49, 46]⟩, .string ⟨#[]⟩, .string ⟨#[49, 48, 46, 48, 46, 48, 46, 49, 47, 56]⟩, .string ⟨#[49, 48, 46, 48, 46, 48, 46, 48, 47, 51, 51]⟩, .string ⟨#[48, 45, 54, 53, 53, 51, 53]⟩, .string ⟨#[56, 48, 45, 56, 48]⟩, .string ⟨#[57, 45, 56]⟩] t)).cell? ⟨w.heap.size, k, none⟩ = some (.string s) ∧ s.size ≤ 281474976710656 ∧ Bad s.data.toList := by
  intro k hk
  match k, hk with
  | 0, _ => exact ⟨_, new_cell _ _ _ _ _ rfl, by decide, bad1⟩
  | 1, _ => exact ⟨_, new_cell _ _ _ _ _ rfl, by decide, bad2⟩
  | 2, _ => exact ⟨_, new_cell _ _ _ _ _ rfl, by decide, bad3⟩
  | 3, _ => exact ⟨_, new_cell _ _ _ _ _ rfl, by decide, bad4⟩
  | 4, _ => exact ⟨_, new_cell _ _ _ _ _ rfl, by decide, bad5⟩
  | 5, _ => exact ⟨_, new_cell _ _ _ _ _ rfl, by decide, bad6⟩
  | 6, _ => exact ⟨_, new_cell _ _ _ _ _ rfl, by decide, bad7⟩
  | 7, _ => exact ⟨_, new_cell _ _ _ _ _ rfl, by decide, bad8⟩
  | 8, _ => exact ⟨_, new_cell _ _ _ _ _ rfl, by decide, bad9⟩
  | 9, _ => exact ⟨_, new_cell _ _ _ _ _ rfl, by decide, bad10⟩
  | k + 10, h => omega

structure PC (w : World) (g : Nat) (a n : Int) : Prop where
  c0 : w.cell? ⟨g, 0, none⟩ = some (.int .u32 a)
  c1 : w.cell? ⟨g, 1, none⟩ = some (.int .u8 n)
theorem PC.fr {S : List Nat} {w w' : World} {g : Nat} {a n : Int} (h : PC w g a n) (hF : Fr S w w') (hg : g ∉ S) : PC w' g a n := ⟨hF.cell h.c0 hg, hF.cell h.c1 hg⟩
theorem pc_new (W : World) (a n : Int) (t : TypeId) : PC (W.alloc (.cells #[.int .u32 a, .int .u8 n] t)) W.heap.size a n := ⟨new_cell _ _ _ 0 _ rfl, new_cell _ _ _ 1 _ rfl⟩

set_option maxHeartbeats 4000000 in
theorem awake_any (w : World) (hV : VV w) : Calls Tryd.prog 5 #[] w fun e w' => e = .returned (.bool true) ∧ Fr [] w w' := by
  go_enter Tryd.func5, Tryd.ntmps5
  go_wp2_with fail
  refine (read_lit _ hV).mono ?_
  rintro e w1 ⟨rfl, hF⟩
  have hV1 := hV.fr hF
  go_wp2_with fail
  refine (cut_lit _).mono ?_
  rintro e w2 ⟨rfl, hF2⟩
  replace hF := (hF.trans hF2).alloc (.cells #[.int .u32 167772160, .int .u8 8] 34)
  replace hV1 := hV.fr hF
  clear hF2
  go_wp2_with fail
  have hP := pc_new w2 167772160 8 34
  generalize w2.alloc (.cells #[.int .u32 167772160, .int .u8 8] 34) = w2' at hF hV1 hP ⊢
  generalize w2.heap.size = gp at hP ⊢
  refine (ptext_lit _ hV1).mono ?_
  rintro e w3 ⟨rfl, hF3⟩
  replace hF := hF.trans hF3
  replace hV1 := hV.fr hF
  replace hP := hP.fr hF3 (by simp)
  clear hF3
  have q0 := hP.c0
  have q1 := hP.c1
  go_wp2_with fail
  clear q0 q1
  refine (bounds_lit _).mono ?_
  rintro e w4 ⟨rfl, hF4⟩
  replace hF := hF.trans hF4
  replace hV1 := hV.fr hF
  replace hP := hP.fr hF4 (by simp)
  clear hF4
  go_wp2_with fail
  refine (coverA_lit _ hV1).mono ?_
  rintro e w5 ⟨A, c, rfl, hR, hRb, hF5⟩
  replace hF := hF.trans hF5
  replace hV1 := hV.fr hF
  replace hP := hP.fr hF5 (by simp)
  clear hF5
  go_wp2_with fail
  refine (coverB_lit _ hV1).mono ?_
  rintro e w6 ⟨g, o, c6, rfl, hg0, hg1, hF6⟩
  replace hF := hF.trans hF6
  replace hV1 := hV.fr hF
  replace hR := hR.fr hF6 (by simp)
  replace hP := hP.fr hF6 (by simp)
  clear hF6
  have q0 := hP.c0
  have q1 := hP.c1
  go_wp2_with fail
  refine (textA_lit _ hV1).mono ?_
  rintro e w7 ⟨rfl, hF7⟩
  replace hF := hF.trans hF7
  replace hV1 := hV.fr hF
  replace hR := hR.fr hF7 (by simp)
  replace hP := hP.fr hF7 (by simp)
  replace hg0 := hF7.cell hg0 (by simp)
  replace hg1 := hF7.cell hg1 (by simp)
  clear hF7 q0 q1
  have q0 := hP.c0
  have q1 := hP.c1
  go_wp2_with fail
  refine (textB_lit _ hV1).mono ?_
  rintro e w8 ⟨rfl, hF8⟩
  replace hF := hF.trans hF8
  replace hV1 := hV.fr hF
  replace hR := hR.fr hF8 (by simp)
  replace hP := hP.fr hF8 (by simp)
  replace hg0 := hF8.cell hg0 (by simp)
  replace hg1 := hF8.cell hg1 (by simp)
  clear hF8 q0 q1
  have q0 := hP.c0
  have q1 := hP.c1
  go_wp2_with fail
  refine (has_lit _).mono ?_
  rintro e w9 ⟨rfl, hF9⟩
  replace hF := hF.trans hF9
  replace hV1 := hV.fr hF
  replace hR := hR.fr hF9 (by simp)
  replace hP := hP.fr hF9 (by simp)
  replace hg0 := hF9.cell hg0 (by simp)
  replace hg1 := hF9.cell hg1 (by simp)
  clear hF9 q0 q1
  have q0 := hP.c0
  have q1 := hP.c1
  go_wp2_with fail
  refine (inside_lit _).mono ?_
  rintro e w10 ⟨rfl, hF10⟩
  replace hF := hF.trans hF10
  replace hV1 := hV.fr hF
  replace hR := hR.fr hF10 (by simp)
  replace hP := hP.fr hF10 (by simp)
  replace hg0 := hF10.cell hg0 (by simp)
  replace hg1 := hF10.cell hg1 (by simp)
  clear hF10 q0 q1
  have q0 := hP.c0
  have q1 := hP.c1
  go_wp2_with fail
  have hrl := rd_new' w10 [.int .u32 167772161, .int .u8 32, .int .u32 167772162, .int .u8 31, .int .u32 167772164, .int .u8 31, .int .u32 167772166, .int .u8 32] 34
  replace hR := hR.fr ((Fr.refl [] w10).alloc (.cells #[.int .u32 167772161, .int .u8 32, .int .u32 167772162, .int .u8 31, .int .u32 167772164, .int .u8 31, .int .u32 167772166, .int .u8 32] 34)) (by simp)
  refine (sameP_any A _ 4 c 4 [(167772161, 32), (167772162, 31), (167772164, 31), (167772166, 32)] _ rfl hR hrl (by decide)).mono ?_
  rintro e w11 ⟨rfl, hF11⟩
  replace hF := (hF.alloc _).trans hF11
  clear hF11 hR hRb hP hg0 hg1 q0 q1 hrl hV1
  have HL := fun (t : TypeId) => bads w11 t
  go_wp2_with fail
  replace HL := HL 9
  replace hF := hF.alloc (.cells #[.string ⟨#[49, 48, 46, 48, 46, 48, 46, 48, 49]⟩, .string ⟨#[49, 48, 46, 48, 46, 48]⟩, .string ⟨#[49, 48, 46, 48, 46, 48, 46, 50, 53, 54]⟩, .string ⟨#[49, 48, 46, 48, 46, 48, 46, 49, 46]⟩, .string ⟨#[]⟩, .string ⟨#[49, 48, 46, 48, 46, 48, 46, 49, 47, 56]⟩, .string ⟨#[49, 48, 46, 48, 46, 48, 46, 48, 47, 51, 51]⟩, .string ⟨#[48, 45, 54, 53, 53, 51, 53]⟩, .string ⟨#[56, 48, 45, 56, 48]⟩, .string ⟨#[57, 45, 56]⟩] 9)
  generalize w11.alloc (.cells #[.string ⟨#[49, 48, 46, 48, 46, 48, 46, 48, 49]⟩, .string ⟨#[49, 48, 46, 48, 46, 48]⟩, .string ⟨#[49, 48, 46, 48, 46, 48, 46, 50, 53, 54]⟩, .string ⟨#[49, 48, 46, 48, 46, 48, 46, 49, 46]⟩, .string ⟨#[]⟩, .string ⟨#[49, 48, 46, 48, 46, 48, 46, 49, 47, 56]⟩, .string ⟨#[49, 48, 46, 48, 46, 48, 46, 48, 47, 51, 51]⟩, .string ⟨#[48, 45, 54, 53, 53, 51, 53]⟩, .string ⟨#[56, 48, 45, 56, 48]⟩, .string ⟨#[57, 45, 56]⟩] 9) = w12 at HL hF ⊢
  generalize w11.heap.size = gs at HL ⊢
  go_loopw [121] (fun i wr => ∃ k : Nat, k ≤ 10 ∧ i = .int .i64 k ∧ Fr [] w12 wr) (fun i _ => 10 - (intOf i).toNat)
  case atStart => exact ⟨0, Nat.zero_le _, rfl, Fr.refl _ _⟩
  case round =>
    obtain ⟨k, hk, rfl, hFr⟩ := hrel
    have hV2 := hV.fr (hF.trans hFr)
    by_cases hlt : k < 10
    · obtain ⟨s, hs0, hs1, hs2⟩ := HL k hlt
      have hc := hFr.cell hs0 (by simp)
      have hi0 : (0 : Int) ≤ (k : Int) ∧ (k : Int) < 10 := by omega
      go_wp2_with fail
      refine (read_bad s hs1 hs2 _ hV2).mono ?_
      rintro e w13 ⟨rfl, hF13⟩
      replace hFr := hFr.trans hF13
      replace hV2 := hV.fr (hF.trans hFr)
      clear hF13 hc
      go_wp2_with fail
      refine (readP_bad s hs1 hs2 _ hV2).mono ?_
      rintro e w14 ⟨rfl, hF14⟩
      replace hFr := hFr.trans hF14
      replace hV2 := hV.fr (hF.trans hFr)
      clear hF14
      go_wp2_with fail
      replace hFr := hFr.alloc (.cells #[.int .u32 0, .int .u8 0] 34)
      replace hV2 := hV.fr (hF.trans hFr)
      refine (readR_bad s hs1 hs2 _ hV2).mono ?_
      rintro e w15 ⟨rfl, hF15⟩
      replace hFr := (hFr.trans hF15).alloc (.cells #[.int .u16 0, .int .u16 0] 25)
      clear hF15 hV2
      go_wp2_with fail
      go_roundw
      case rel => exact ⟨k + 1, by omega, by go_num, hFr⟩
      case measure => simp [intOf]; omega
    · obtain rfl : k = 10 := by omega
      go_wp2_with fail
      have hK0 := hFr.alloc (.cells #[.int .u8 6, .int .u32 167772161, .int .u32 167772162, .int .u16 80, .int .u16 90] 27)
      replace hV2 := hV.fr (hF.trans hK0)
      refine (key_lit _ hV2).mono ?_
      rintro e w13 ⟨rfl, hF13⟩
      have hKC := (kc_new wr 6 167772161 167772162 80 90).fr hF13 (by simp)
      have c0 : w13.cell? ⟨wr.heap.size, 0, none⟩ = some (.int .u8 6) := hKC.c0
      have c1 : w13.cell? ⟨wr.heap.size, 1, none⟩ = some (.int .u32 167772161) := hKC.c1
      have c2 : w13.cell? ⟨wr.heap.size, 2, none⟩ = some (.int .u32 167772162) := hKC.c2
      have c3 : w13.cell? ⟨wr.heap.size, 3, none⟩ = some (.int .u16 80) := hKC.c3
      have c4 : w13.cell? ⟨wr.heap.size, 4, none⟩ = some (.int .u16 90) := hKC.c4
      replace hK0 := hK0.trans hF13
      clear hKC hF13 hV2
      go_wp2_with fail
      refine (turn_lit _).mono ?_
      rintro e w14 ⟨rfl, hF14⟩
      replace hK0 := hK0.trans hF14
      have hV2 := hV.fr (hF.trans hK0)
      clear c0 c1 c2 c3 c4 hF14
      go_wp2_with fail
      refine (key2_lit _ hV2).mono ?_
      rintro e w15 ⟨rfl, hF15⟩
      go_wp2_with fail
      go_ret
      exact ⟨rfl, (hF.trans hK0).trans hF15⟩
end Go.Proofs.YteblkheodjibbaaDoor
