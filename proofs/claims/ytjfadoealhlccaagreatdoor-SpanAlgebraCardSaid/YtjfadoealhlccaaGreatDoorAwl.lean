/- The calls of the chapter's examples, each with what it gives. -/
import Derived.Test.YtjfadoealhlccaaGreatDoorLts
namespace Go.Proofs.YtjfadoealhlccaaGreatDoor
open Go.RowKit
set_option linter.unusedVariables false
set_option maxRecDepth 100000

/-- A call that gives a set. -/
def Gives (l : List Sp) (w : World) (e : Ending) (w' : World) : Prop := ∃ s : ArgS, e = .returned (.tuple #[.slice s.A s.n s.c, .int .i64 0]) ∧ s.l = l ∧ s.Ok w' ∧ Fr [] w w'
theorem spL (l : List Sp) (cs : Array Value) (n N : Nat) (W : World) (hcs : cs.toList = CS l) (hl : l.length = n) (hs : l.all (fun x => decide (x.1 < 4294967296) && decide (x.2 < 4294967296)) = true) (hN : N = 2 * n) (hn : n ≤ 1000) :
    Calls Tryz.prog 26 #[.slice (some ⟨W.heap.size, 0, none⟩) N N] (W.alloc (.cells cs 37)) fun e w' => ∃ s : ArgS, e = .returned (.slice s.A s.n s.c) ∧ s.l = l ∧ s.Ok w' ∧ Fr [] W w' := by
  have hR : Rd (W.alloc (.cells cs 37)) (some ⟨W.heap.size, 0, none⟩) (CS l) := fun j u hu => ⟨_, rfl, by
    rw [Lib.add_plain, Nat.zero_add]
    refine new_cell W cs 37 j u ?_
    rw [← hcs, Array.getElem?_toList] at hu
    exact hu⟩
  refine (spans_any W.heap.size 0 n N N l _ hl (sb_of hs) hR (by omega) hN).mono ?_
  rintro e w' ⟨A, c, rfl, ho, hF⟩
  obtain ⟨_, c', e', h1, _⟩ := own_slice ho
  injection e' with _ _ e'
  subst e'
  exact ⟨⟨A, n, c, l⟩, rfl, rfl, ⟨hl, sb_of hs, own_rdS ho, by show n ≤ 1000000000; omega, h1⟩, ((Fr.refl [] W).alloc _).trans hF⟩
theorem err_one {s : ArgS} {w : World} (os : s.Ok w) (h : s.l.length ≤ 4096) (hr : RSf 0 s.l) : errS [s] = 0 := errS_ok fun x hx => by
  simp only [List.mem_cons, List.not_mem_nil, or_false] at hx
  subst hx
  exact ⟨by rw [← os.len]; exact h, hr⟩
theorem err_two {a b : ArgS} {w : World} (oa : a.Ok w) (ob : b.Ok w) (h : a.l.length ≤ 4096) (hr : RSf 0 a.l) (h2 : b.l.length ≤ 4096) (hr2 : RSf 0 b.l) : errS [a, b] = 0 := errS_ok fun x hx => by
  simp only [List.mem_cons, List.not_mem_nil, or_false] at hx
  rcases hx with rfl | rfl
  · exact ⟨by rw [← oa.len]; exact h, hr⟩
  · exact ⟨by rw [← ob.len]; exact h2, hr2⟩
theorem comb_gives {tk : Bool → Bool → Bool} {a b c : List Sp} {w w' : World} {e : Ending} (hu : ∀ r, Comb tk a b r → r = c) (h : CombP tk a b w e w') : Gives c w e w' := by
  obtain ⟨s, rfl, hc, _, hn⟩ := h
  exact ⟨s, rfl, hu _ hc, hn.ok, hn.fr⟩
theorem ofL (s : ArgS) (w : World) (os : s.Ok w) (hl : s.l = [(5, 7), (1, 2), (3, 3), (7, 9)]) : Calls Tryz.prog 24 #[.slice s.A s.n s.c] w (Gives [(1, 3), (5, 9)] w) := by
  have hlen := os.len
  rw [hl] at hlen
  obtain ⟨b, o, hA⟩ := rd_addr' os.rd (by rw [hl]; decide)
  refine (of_any b o s hA (by rw [← hlen]; decide) w os true ?_).mono ?_
  · rw [hl]; simp
  · rintro e w' (⟨_, r, rfl, h1, h2, _, hn⟩ | ⟨h, _⟩)
    · rw [hl] at h2
      exact ⟨r, rfl, ex_of h1 h2, hn.ok, hn.fr⟩
    · cases h
theorem unionL (a b : ArgS) (w : World) (oa : a.Ok w) (ob : b.Ok w) (ha : a.l = [(1, 3)]) (hb : b.l = [(4, 6)]) : Calls Tryz.prog 10 #[.slice a.A a.n a.c, .slice b.A b.n b.c] w (Gives [(1, 6)] w) := by
  have h := union_yes a b (err_two oa ob (by rw [ha]; decide) (by rw [ha]; decide) (by rw [hb]; decide) (by rw [hb]; decide)) w oa ob
  rw [ha, hb] at h
  exact h.mono fun e w' hh => comb_gives (fun r => ex_union) hh
theorem commonL (a b : ArgS) (w : World) (oa : a.Ok w) (ob : b.Ok w) (ha : a.l = [(1, 5), (9, 9)]) (hb : b.l = [(4, 9)]) : Calls Tryz.prog 11 #[.slice a.A a.n a.c, .slice b.A b.n b.c] w (Gives [(4, 5), (9, 9)] w) := by
  have h := common_yes a b (err_two oa ob (by rw [ha]; decide) (by rw [ha]; decide) (by rw [hb]; decide) (by rw [hb]; decide)) w oa ob
  rw [ha, hb] at h
  exact h.mono fun e w' hh => comb_gives (fun r => ex_common) hh
theorem withoutL (a b : ArgS) (w : World) (oa : a.Ok w) (ob : b.Ok w) (ha : a.l = [(1, 5), (9, 9)]) (hb : b.l = [(4, 9)]) : Calls Tryz.prog 12 #[.slice a.A a.n a.c, .slice b.A b.n b.c] w (Gives [(1, 3)] w) := by
  have h := without_yes a b (err_two oa ob (by rw [ha]; decide) (by rw [ha]; decide) (by rw [hb]; decide) (by rw [hb]; decide)) w oa ob
  rw [ha, hb] at h
  exact h.mono fun e w' hh => comb_gives (fun r => ex_without) hh
theorem othersL (a : ArgS) (w : World) (oa : a.Ok w) (ha : a.l = [(1, 3)]) : Calls Tryz.prog 13 #[.slice a.A a.n a.c] w (Gives [(0, 0), (4, 4294967295)] w) := by
  have h := others_yes a (err_one oa (by rw [ha]; decide) (by rw [ha]; decide)) w oa
  rw [ha] at h
  exact h.mono fun e w' hh => comb_gives (fun r => ex_others) hh
theorem allL (w : World) : Calls Tryz.prog 13 #[.slice none 0 0] w (Gives [(0, 4294967295)] w) := by
  have os : ArgS.Ok ⟨none, 0, 0, []⟩ w := ⟨rfl, SB.nil, Rd.nil _ _, by decide, Nat.le_refl _⟩
  have h := others_yes ⟨none, 0, 0, []⟩ (err_one os (by decide) (by decide)) w os
  exact h.mono fun e w' hh => comb_gives (fun r => ex_all) hh
theorem countL (a : ArgS) (w : World) (oa : a.Ok w) (ha : a.l = [(1, 3), (5, 9)]) : Calls Tryz.prog 18 #[.slice a.A a.n a.c] w fun e w' => e = .returned (.tuple #[.int .i64 8, .int .i64 0]) ∧ Fr [] w w' := by
  have h := count_yes a (err_one oa (by rw [ha]; decide) (by rw [ha]; decide)) w oa
  rw [ha] at h
  exact h
theorem prefixesL (a : ArgS) (w : World) (oa : a.Ok w) (ha : a.l = [(1, 6)]) (hV : VV w) : Calls Tryz.prog 21 #[.slice a.A a.n a.c] w fun e w' => (∃ A c, e = .returned (.tuple #[.slice A 4 c, .int .i64 0])) ∧ Fr [] w w' := by
  have h := prefixes_yes a (err_one oa (by rw [ha]; decide) (by rw [ha]; decide)) w oa hV
  rw [ha] at h
  refine h.mono ?_
  rintro e w' ⟨L, v, rfl, hC, _, ho, hF⟩
  obtain ⟨A, c, rfl, _⟩ := own_slice ho
  exact ⟨⟨A, c, by rw [ex_prefixes hC]⟩, hF⟩
theorem textL (a : ArgS) (w : World) (oa : a.Ok w) (ha : a.l = [(1, 3), (7, 7)]) (hV : VV w) : Calls Tryz.prog 19 #[.slice a.A a.n a.c] w fun e w' => e = .returned (.tuple #[.string ⟨#[49, 45, 51, 44, 55]⟩, .int .i64 0]) ∧ Fr [] w w' := by
  have h := text_yes a (err_one oa (by rw [ha]; decide) (by rw [ha]; decide)) w oa hV
  rw [ha, ex_text] at h
  exact h
theorem sameL (a b : ArgS) (w : World) (oa : a.Ok w) (ob : b.Ok w) (h : a.l = b.l) : Calls Tryz.prog 15 #[.slice a.A a.n a.c, .slice b.A b.n b.c] w fun e w' => e = .returned (.bool true) ∧ Fr [] w w' := by
  have hs := same_any a b w oa ob
  rw [decide_eq_true h] at hs
  exact hs
theorem next4L (a : ArgS) (w : World) (oa : a.Ok w) (ha : a.l = [(1, 3), (7, 7)]) : Calls Tryz.prog 25 #[.slice a.A a.n a.c, .int .u32 4] w fun e w' => e = .returned (.tuple #[.int .u32 7, .bool true]) ∧ Fr [] w w' := by
  refine (next_any a 4 (by decide) w oa).mono ?_
  rintro e w' ⟨v, b, rfl, hN, hv, hF⟩
  rw [ha] at hN
  rcases hN with ⟨rfl, h1, h2, h3⟩ | ⟨rfl, h1, h2⟩
  · have h4 := h3 7 (by decide)
    simp [hasS_cons, hasS_nil] at h2 h4
    obtain rfl : v = 7 := by omega
    exact ⟨rfl, hF⟩
  · exact absurd (by decide : hasS [(1, 3), (7, 7)] 7) (h2 7 (by decide))
theorem next8L (a : ArgS) (w : World) (oa : a.Ok w) (ha : a.l = [(1, 3), (7, 7)]) : Calls Tryz.prog 25 #[.slice a.A a.n a.c, .int .u32 8] w fun e w' => e = .returned (.tuple #[.int .u32 0, .bool false]) ∧ Fr [] w w' := by
  refine (next_any a 8 (by decide) w oa).mono ?_
  rintro e w' ⟨v, b, rfl, hN, hv, hF⟩
  rw [ha] at hN
  rcases hN with ⟨rfl, h1, h2, h3⟩ | ⟨rfl, h1, h2⟩
  · simp [hasS_cons, hasS_nil] at h2
    omega
  · subst h1
    exact ⟨rfl, hF⟩
theorem readL (s : ByteArray) (hs : s.size ≤ 281474976710656) (hn : NoSet s.data.toList) (w : World) (hV : VV w) : Calls Tryz.prog 20 #[.string s] w fun e w' => e = .returned (.tuple #[.slice none 0 0, .int .i64 40]) ∧ Fr [] w w' := by
  refine (readT_any s hs w hV).mono ?_
  rintro e w' ⟨hF, ⟨L, v, h1, h2, h3, _⟩ | ⟨_, rfl⟩⟩
  · exact absurd h3 (hn L h1 h2)
  · exact ⟨rfl, hF⟩
end Go.Proofs.YtjfadoealhlccaaGreatDoor
