/- Read: the set of a text. -/
import Derived.Test.YtjfadoealhlccaaGreatDoorRds
import Derived.Test.YtjfadoealhlccaaGreatDoorTxt
namespace Go.Proofs.YtjfadoealhlccaaGreatDoor
open Go.RowKit
set_option linter.unusedVariables false
set_option maxRecDepth 100000

def parts : List UInt8 → List (List UInt8)
  | [] => [[]]
  | c :: l => if c = 44 then [] :: parts l else match parts l with
    | [] => [[c]]
    | p :: ps => (c :: p) :: ps
theorem parts_one {x : List UInt8} (h : (44 : UInt8) ∉ x) : parts x = [x] := by
  induction x with
  | nil => rfl
  | cons c x ih =>
    simp only [List.mem_cons, not_or] at h
    rw [parts, if_neg (fun e => h.1 e.symm), ih h.2]
theorem parts_more {x : List UInt8} (y : List UInt8) (h : (44 : UInt8) ∉ x) : parts (x ++ 44 :: y) = x :: parts y := by
  induction x with
  | nil => rw [List.nil_append, parts, if_pos rfl]
  | cons c x ih =>
    simp only [List.mem_cons, not_or] at h
    rw [List.cons_append, parts, if_neg (fun e => h.1 e.symm), ih h.2]
def rdAll (pre : List Sp) : List (List UInt8) → Option (List Sp)
  | [] => some pre
  | x :: r => match rdsp x with
    | some s => if pre.length = 4096 then none else rdAll (pre ++ [s]) r
    | none => none
theorem rdL_fun {pre : List Sp} {l : List UInt8} {o : Option (List Sp)} (h : RdL pre l o) : o = rdAll pre (parts l) := by
  induction h with
  | lastOk h hr hl => rw [parts_one h, rdAll, hr]; simp only; rw [if_neg hl]; rfl
  | lastNo h hr =>
    rw [parts_one h, rdAll]
    rcases hr with hr | hr
    · rw [hr]
    · split
      · rw [if_pos hr]
      · rfl
  | moreOk h hr hl r ih => rw [parts_more _ h, rdAll, hr]; simp only; rw [if_neg hl]; exact ih
  | moreNo h hr =>
    rw [parts_more _ h, rdAll]
    rcases hr with hr | hr
    · rw [hr]
    · split
      · rw [if_pos hr]
      · rfl
/-- The spans of a string, right or not. -/
def rdText (l : List UInt8) : Option (List Sp) := if l = [] then some [] else rdAll [] (parts l)
def RdtP (l : List UInt8) (w : World) (e : Ending) (W' : World) : Prop :=
  Fr [] w W' ∧ ((∃ L v, rdText l = some L ∧ L.length ≤ 4096 ∧ SB L ∧ e = .returned (.tuple #[v, .bool true]) ∧ W'.ownsRow w.heap.size 40 2 v L.length (CS L)) ∨ (rdText l = none ∧ e = .returned (.tuple #[.slice none 0 0, .bool false])))
theorem readSpans_any (s : ByteArray) (hs : s.size ≤ 281474976710656) (w : World) (hV : VV w) : Calls Tryz.prog 38 #[.string s] w (RdtP s.data.toList w) := by
  by_cases hne : s.data.toList = []
  · obtain rfl := str_of hne
    have hF : Fr [] w ((w.alloc (.cells #[.slice none 0 0] 26)).alloc (.cells #[.bool false] 4)) := ((Fr.refl _ _).alloc _).alloc _
    have b2 : ((w.alloc (.cells #[.slice none 0 0] 26)).alloc (.cells #[.bool false] 4)).heap[w.heap.size]? = some (.cells #[.slice none 0 0] 26 (0, 0)) := ((Fr.refl [] _).alloc _).blk (blk_new w _ _) (by simp)
    have b3 : ((w.alloc (.cells #[.slice none 0 0] 26)).alloc (.cells #[.bool false] 4)).heap[w.heap.size + 1]? = some (.cells #[.bool false] 4 (0, 0)) := by
      have := blk_new (w.alloc (.cells #[.slice none 0 0] 26)) #[.bool false] 4
      simpa using this
    have c2 : ((w.alloc (.cells #[.slice none 0 0] 26)).alloc (.cells #[.bool false] 4)).cell? ⟨w.heap.size, 0, none⟩ = some (.slice none 0 0) := blk_cell b2 rfl
    have c3 : ((w.alloc (.cells #[.slice none 0 0] 26)).alloc (.cells #[.bool false] 4)).cell? ⟨w.heap.size + 1, 0, none⟩ = some (.bool false) := blk_cell b3 rfl
    have f2 := blk_fz (j := 0) b2
    have f3 := blk_fz (j := 0) b3
    go_enter Tryz.func38, Tryz.ntmps38
    go_wp2
    have q3 := new_cell (w.alloc (.cells #[.slice none 0 0] 26)) #[.bool true] 4 0 _ rfl
    rw [show (w.alloc (.cells #[.slice none 0 0] 26)).heap.size = w.heap.size + 1 by simp] at q3
    have q2 := old_cell (new_cell w #[.slice none 0 0] 26 0 _ rfl) (.cells #[.bool true] 4)
    exact bodyPost_ret (v := .tuple #[.slice none 0 0, .bool true]) (res_any _ _ w.heap.size (w.heap.size + 1) _ _ rfl rfl q2 q3) rfl ⟨((Fr.refl _ _).alloc _).alloc _, .inl ⟨[], _, rfl, by simp, (by intro x hx; cases hx), rfl, World.ownsRow_nil _ _ _ _⟩⟩
  · refine (callsIn_wide.1 (readSpans_in s hne hs w hV)).mono ?_
    rintro e w' ⟨hF, ⟨L, v, h1, h2, h3, rfl, h4⟩ | ⟨h1, rfl⟩⟩
    · exact ⟨hF, .inl ⟨L, v, by unfold rdText; rw [if_neg hne]; exact (rdL_fun h1).symm, h2, h3, rfl, h4⟩⟩
    · exact ⟨hF, .inr ⟨by unfold rdText; rw [if_neg hne]; exact (rdL_fun h1).symm, rfl⟩⟩
def RedP (l : List UInt8) (w : World) (e : Ending) (w' : World) : Prop :=
  Fr [] w w' ∧ ((∃ L v, rdText l = some L ∧ RSf 0 L ∧ settext L = l ∧ L.length ≤ 4096 ∧ SB L ∧ e = .returned (.tuple #[v, .int .i64 0]) ∧ w'.ownsRow w.heap.size 40 2 v L.length (CS L)) ∨
    ((∀ L, rdText l = some L → RSf 0 L → settext L ≠ l) ∧ e = .returned (.tuple #[.slice none 0 0, .int .i64 40])))
set_option maxHeartbeats 1000000 in
theorem readT_any (s : ByteArray) (hs : s.size ≤ 281474976710656) (w : World) (hV : VV w) : Calls Tryz.prog 20 #[.string s] w (RedP s.data.toList w) := by
  have cR := readSpans_any s hs w hV
  go_enter Tryz.func20, Tryz.ntmps20
  go_wp2_with fail
  refine cR.mono ?_
  rintro e w1 ⟨hF, ⟨L, v, h1, h2, h3, rfl, h4⟩ | ⟨h1, rfl⟩⟩
  · obtain ⟨A, c, rfl, hc, _, _⟩ := own_slice h4
    have os : ArgS.Ok ⟨A, L.length, c, L⟩ w1 := ⟨rfl, h3, own_rdS h4, by show L.length ≤ 1000000000; omega, hc⟩
    have H1 := Lib.hid h1
    have H2 := Lib.hid h2
    have H3 := Lib.hid h3
    have H4 := Lib.hid h4
    have hV1 := hV.fr hF
    clear h1 h3 h4 cR
    by_cases hR : RSf 0 L
    · have cT := text_yes ⟨A, L.length, c, L⟩ (errS_ok (by intro s hs; simp only [List.mem_cons, List.not_mem_nil, or_false] at hs; subst hs; exact ⟨h2, hR⟩)) w1 os hV1
      simp only at cT
      have HR := Lib.hid hR
      clear hR os h2
      obtain ⟨T, hT⟩ : ∃ T, T = settext L := ⟨_, rfl⟩
      rw [← hT] at cT
      by_cases he : (⟨T.toArray⟩ : ByteArray) = s
      · subst he
        have HT := Lib.hid hT
        clear hT
        go_wp2_with fail
        refine cT.mono ?_
        rintro e w2 ⟨rfl, hG⟩
        go_wp2_with fail
        go_ret2
        exact ⟨hF.trans hG, .inl ⟨L, _, H1.out, HR.out, HT.out.symm, H2.out, H3.out, rfl, hG.own H4.out (by simp)⟩⟩
      · have hq := neq_str he
        have HT := Lib.hid hT
        have HE := Lib.hid he
        clear hT he
        go_wp2_with fail
        refine cT.mono ?_
        rintro e w2 ⟨rfl, hG⟩
        go_wp2_with fail
        go_ret2
        refine ⟨hF.trans hG, .inr ⟨fun L' h1' h2' h3' => ?_, rfl⟩⟩
        have := H1.out.symm.trans h1'
        injection this with this
        subst this
        refine HE.out ?_
        rw [HT.out, h3', ← str_of rfl]
    · have h0 : errS [⟨A, L.length, c, L⟩] ≠ 0 := fun h => hR (errS_zero h ⟨A, L.length, c, L⟩ (by simp)).2
      have cT := text_no ⟨A, L.length, c, L⟩ _ rfl h0 w1 os
      generalize errS [⟨A, L.length, c, L⟩] = E at cT h0
      have b1 : (E == 0) = false := by rw [beq_eq_false_iff_ne]; exact h0
      have b2 : (E != 0) = true := bne_iff_ne.2 h0
      have HR := Lib.hid hR
      clear hR os h0 h2
      simp only at cT
      go_wp2_with fail
      refine cT.mono ?_
      rintro e w2 ⟨rfl, hG⟩
      go_wp2_with fail
      go_ret2
      refine ⟨hF.trans hG, .inr ⟨fun L' h1' h2' h3' => ?_, rfl⟩⟩
      have := H1.out.symm.trans h1'
      injection this with this
      subst this
      exact HR.out h2'
  · have H1 := Lib.hid h1
    clear h1 cR
    go_wp2_with fail
    go_ret2
    exact ⟨hF, .inr ⟨fun L h => (by rw [H1.out] at h; cases h), rfl⟩⟩
end Go.Proofs.YtjfadoealhlccaaGreatDoor
