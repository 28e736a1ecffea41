/- The text of a set. -/
import Derived.Test.YtjfadoealhlccaaGreatDoorDcm
import Derived.Test.YtjfadoealhlccaaGreatDoorQry
import Derived.Shelf.Strings.OnBuilder
import Derived.Lib.Join
import Derived.Laws.MakeOwn
import Derived.Laws.Entries
namespace Go.Proofs.YtjfadoealhlccaaGreatDoor
open Go.RowKit
set_option linter.unusedVariables false
set_option maxRecDepth 100000

theorem extraJ : Builder.Extra Tryz.prog lays156_ren where
  sizeBuilder := by kernel_rfl
  liesBuilder := by kernel_rfl
  t5 := Tryz.underlying5
  a5 := Tryz.isAgg5
  z5 := Tryz.sizeOf5
  v5 := Tryz.zeroValue5
  infoByte := by kernel_rfl
  cellsByte := by kernel_rfl
  sizeByte := by kernel_rfl
  neB5 := by decide
/-- A row of strings in a block of its own. -/
def SR (w : World) (g : Nat) (xs : List ByteArray) : Prop := w.heap[g]? = some (.cells (xs.map Value.string).toArray 9 (0, 0))
theorem SR.cell {w : World} {g : Nat} {xs : List ByteArray} (h : SR w g xs) {j : Nat} {x : ByteArray} (hx : xs[j]? = some x) : w.cell? ⟨g, j, none⟩ = some (.string x) := by
  unfold SR at h
  have hx2 : (xs.map Value.string)[j]? = some (.string x) := by rw [List.getElem?_map, hx]; rfl
  simp [World.cell?, h, hx]
theorem SR.fz {w : World} {g : Nat} {xs : List ByteArray} (h : SR w g xs) (j : Nat) : w.frozen? ⟨g, j, none⟩ = false := by
  unfold SR at h
  simp [World.frozen?, h]
theorem SR.fr {w w' : World} {g : Nat} {xs : List ByteArray} (h : SR w g xs) (hF : Fr [] w w') : SR w' g xs := hF.blk h (by simp)
theorem SR.lt {w : World} {g : Nat} {xs : List ByteArray} (h : SR w g xs) : g < w.heap.size := lt_of_block h
theorem SR.set {w : World} {g : Nat} {xs : List ByteArray} (h : SR w g xs) (j : Nat) (x : ByteArray) : SR (w.setCell ⟨g, j, none⟩ (.string x)) g (xs.set j x) := by
  unfold SR at h ⊢
  simp [World.setCell, Array.getElem?_modify, h, List.map_set]
def str (x : Sp) : ByteArray := ⟨(stext x).toArray⟩
def srow (l : List Sp) (k : Nat) : List ByteArray := (l.take k).map str ++ List.replicate (l.length - k) ⟨#[]⟩
theorem srow_len (l : List Sp) (k : Nat) (h : k ≤ l.length) : (srow l k).length = l.length := by simp [srow]; omega
theorem srow_get {l : List Sp} {k : Nat} (h : k < l.length) : (srow l k)[k]? = some ⟨#[]⟩ := by
  unfold srow
  rw [List.getElem?_append_right (by simp; omega), List.getElem?_replicate, if_pos (by simp; omega)]
theorem srow_set {l : List Sp} {k : Nat} {x : Sp} (hx : l[k]? = some x) : (srow l k).set k (str x) = srow l (k + 1) := by
  have hk : k < l.length := (List.getElem?_eq_some_iff.1 hx).1
  apply List.ext_getElem?
  intro j
  unfold srow
  rw [List.getElem?_set]
  by_cases e : k = j
  · subst e
    rw [if_pos rfl, if_pos (by simp; omega), List.getElem?_append_left (by simp; omega), List.getElem?_map, List.getElem?_take, if_pos (by omega), hx]
    rfl
  · rw [if_neg e]
    by_cases h2 : j < k
    · rw [List.getElem?_append_left (by simp; omega), List.getElem?_append_left (by simp; omega), List.getElem?_map, List.getElem?_map, List.getElem?_take, List.getElem?_take, if_pos h2, if_pos (by omega)]
    · rw [List.getElem?_append_right (by simp; omega), List.getElem?_append_right (by simp; omega), List.getElem?_replicate, List.getElem?_replicate]
      simp only [List.length_map, List.length_take]
      by_cases h3 : j < l.length
      · rw [if_pos (by omega), if_pos (by omega)]
      · rw [if_neg (by omega), if_neg (by omega)]
theorem srow_all (l : List Sp) : srow l l.length = l.map str := by simp [srow]
theorem srow_none (l : List Sp) : srow l 0 = List.replicate l.length ⟨#[]⟩ := by simp [srow]
def settext (l : List Sp) : List UInt8 := Lib.join (l.map stext) [44]
theorem str_list (l : List Sp) : (l.map str).map (·.data.toList) = l.map stext := by
  rw [List.map_map]
  exact List.map_congr_left fun x _ => rfl
theorem stext_len {x : Sp} (h1 : x.1 < 4294967296) (h2 : x.2 < 4294967296) : (stext x).length ≤ 37 := by
  have l1 := dec_len_le (n := x.1) (by omega)
  have l2 := dec_len_le (n := x.2) (by omega)
  unfold stext
  split
  · omega
  · simp; omega
theorem joinTail_len (r : List (List UInt8)) (h : ∀ x ∈ r, x.length ≤ 37) : (Lib.joinTail [44] r).length ≤ 38 * r.length := by
  induction r with
  | nil => simp [Lib.joinTail]
  | cons x r ih =>
    have h1 := h x (by simp)
    have h2 := ih fun y hy => h y (by simp [hy])
    unfold Lib.joinTail at h2 ⊢
    rw [List.map_cons, List.flatten_cons, List.length_append]
    simp only [List.length_append, List.length_cons, List.length_nil]
    omega
theorem settext_len {l : List Sp} (h : SB l) : (settext l).length ≤ 38 * l.length := by
  have hh : ∀ x ∈ l.map stext, x.length ≤ 37 := by
    intro x hx
    obtain ⟨y, hy, rfl⟩ := List.mem_map.1 hx
    have := h y hy
    exact stext_len (by omega) (by omega)
  unfold settext
  cases l with
  | nil => simp [Lib.join_nil]
  | cons y l =>
    rw [List.map_cons, Lib.join_cons, List.length_append]
    have h1 := hh (stext y) (by simp)
    have h2 := joinTail_len (l.map stext) fun x hx => hh x (by simp at hx ⊢; exact .inr hx)
    simp at h2 ⊢
    omega
theorem join_any (g c : Nat) (l : List Sp) (w : World) (h : SR w g (l.map str)) (hS : SB l) (hl : l.length ≤ 4096) (hc : l.length ≤ c) :
    Calls Tryz.prog 37 #[.slice (some ⟨g, 0, none⟩) l.length c, .string ⟨#[44]⟩] w fun e w' => e = .returned (.string ⟨(settext l).toArray⟩) ∧ Fr [] w w' := by
  have hl2 := settext_len hS
  have hJ := Any.strings_Join lays156 extraJ g 0 c (l.map str) ⟨#[44]⟩ w (fun j x hx => by rw [Nat.zero_add]; exact h.cell hx) h.lt (by simp; omega) (by simp; exact hc) (by
    rw [str_list]
    have e : Lib.join (l.map stext) (⟨#[44]⟩ : ByteArray).data.toList = settext l := rfl
    rw [e]
    omega)
  rw [str_list, List.length_map] at hJ
  refine (show Calls Tryz.prog 37 #[.slice (some ⟨g, 0, none⟩) l.length c, .string ⟨#[44]⟩] w _ from hJ).mono ?_
  rintro e w' ⟨rfl, hB⟩
  exact ⟨rfl, Fr.ofBelow hB⟩
theorem infoStr : (Tryz.prog.info? 9).map (fun i => (i.zero, i.size, i.bytes)) = some (some (.string ⟨#[]⟩), 1, 16) := by kernel_rfl
theorem mk_str (n : Nat) (hn : n ≤ 4096) (w : World) : Sem.run Tryz.prog (Instr.makeSlice 66 (.int .i64 (n : Int)) (.int .i64 (n : Int))) w = .ok (.slice (some ⟨w.heap.size, 0, none⟩) n n) (w.alloc (.cells ((List.replicate n (⟨#[]⟩ : ByteArray)).map Value.string).toArray 9)) := by
  obtain ⟨i0, hi, hz0, hz1, hz2⟩ : ∃ i, Tryz.prog.info? 9 = some i ∧ i.zero = some (.string ⟨#[]⟩) ∧ i.size = 1 ∧ i.bytes = 16 := by
    have h := infoStr
    cases hi : Tryz.prog.info? 9 with
    | none => rw [hi] at h; cases h
    | some i =>
      rw [hi] at h
      simp only [Option.map_some, Option.some.injEq, Prod.mk.injEq] at h
      exact ⟨i, rfl, h.1, h.2.1, h.2.2⟩
  have hr := run_make (P := Tryz.prog) w 66 9 i0 (.string ⟨#[]⟩) Tryz.underlying66 hi hz0 .i64 .i64 n n (by omega) (by omega) (by rw [hz2]; omega) (by omega)
  simp only [Int.toNat_natCast, hz1, Nat.mul_one] at hr
  rw [hr]
  congr 3
  have e : (Value.string (⟨#[]⟩ : ByteArray)).cells = #[.string ⟨#[]⟩] := rfl
  apply Array.ext
  · simp [madeCells]
  · intro i h1 h2
    simp [madeCells, e, Nat.mod_one]

set_option maxHeartbeats 1000000 in
theorem text_no (s : ArgS) (E : Int) (hE : E = errS [s]) (h0 : E ≠ 0) (w : World) (os : s.Ok w) :
    Calls Tryz.prog 19 #[.slice s.A s.n s.c] w fun e w' => e = .returned (.tuple #[.string ⟨#[]⟩, .int .i64 E]) ∧ Fr [] w w' := by
  have hF : Fr [] w (w.alloc (.cells #[.slice s.A s.n s.c] 26)) := (Fr.refl _ _).alloc _
  have hK := check_any [s] (some ⟨w.heap.size, 0, none⟩) 1 1 (w.alloc (.cells #[.slice s.A s.n s.c] 26)) rfl (rd_new2 w _ _) (by
    intro x hx
    simp only [List.mem_cons, List.not_mem_nil, or_false] at hx
    subst hx
    exact os.fr hF) (by decide)
  rw [← hE] at hK
  have b1 : (E == 0) = false := by rw [beq_eq_false_iff_ne]; exact h0
  clear hE h0
  go_enter Tryz.func19, Tryz.ntmps19
  go_wp2_with fail
  refine hK.mono ?_
  rintro e w2 ⟨rfl, hG⟩
  go_wp2_with fail
  go_ret2
  exact ⟨rfl, hF.trans hG⟩
set_option maxHeartbeats 1000000 in
theorem text_yes (s : ArgS) (h0 : errS [s] = 0) (w : World) (os : s.Ok w) (hV : VV w) :
    Calls Tryz.prog 19 #[.slice s.A s.n s.c] w fun e w' => e = .returned (.tuple #[.string ⟨(settext s.l).toArray⟩, .int .i64 0]) ∧ Fr [] w w' := by
  have hF : Fr [] w (w.alloc (.cells #[.slice s.A s.n s.c] 26)) := (Fr.refl _ _).alloc _
  have hK := check_any [s] (some ⟨w.heap.size, 0, none⟩) 1 1 (w.alloc (.cells #[.slice s.A s.n s.c] 26)) rfl (rd_new2 w _ _) (by
    intro x hx
    simp only [List.mem_cons, List.not_mem_nil, or_false] at hx
    subst hx
    exact os.fr hF) (by decide)
  rw [h0] at hK
  have hn := (errS_zero h0 s (by simp)).1
  clear h0
  obtain ⟨A, n, c, l⟩ := s
  have hR := os.rd
  have HL := Lib.hid os.len
  have HS := Lib.hid os.sb
  simp only at hR HL HS hK hn ⊢
  clear os
  go_enter Tryz.func19, Tryz.ntmps19
  go_wp2_with fail
  refine hK.mono ?_
  rintro e w2 ⟨rfl, hG⟩
  replace hF := hF.trans hG
  clear hK hG
  have hm := mk_str n hn w2
  have hF1 := hF.alloc (.cells ((List.replicate n (⟨#[]⟩ : ByteArray)).map Value.string).toArray 9)
  have hSR : SR (w2.alloc (.cells ((List.replicate n (⟨#[]⟩ : ByteArray)).map Value.string).toArray 9)) w2.heap.size (srow l 0) := by
    rw [srow_none, HL.out]
    exact Array.getElem?_push_size
  have hge : w.heap.size ≤ w2.heap.size := hF.size
  generalize w2.alloc (.cells ((List.replicate n (⟨#[]⟩ : ByteArray)).map Value.string).toArray 9) = w3 at hm hF1 hSR
  generalize w2.heap.size = g at hm hSR hge
  have HSR := Lib.hid hSR
  clear hSR
  have hgb : g ∉ ([] : List Nat) := by simp
  clear hF
  go_wp2
  clear hm
  go_loopw [19] (fun i wr => ∃ (k : Nat), k ≤ n ∧ i = .int .i64 k ∧ SR wr g (srow l k) ∧ Fr [] w wr) (fun i _ => n - (intOf i).toNat)
  case atStart => exact ⟨0, Nat.zero_le _, rfl, HSR.out, hF1⟩
  case round =>
    obtain ⟨k, hk, rfl, hrow, hF⟩ := hrel
    by_cases hlt : k < n
    · obtain ⟨⟨x1, x2⟩, hx⟩ : ∃ x, l[k]? = some x := ⟨_, List.getElem?_eq_getElem (by rw [HL.out]; exact hlt)⟩
      have hbnd := HS.out.get hx
      obtain ⟨bb, oo, rfl, p1, p2⟩ := rdS (hR.fr hF (by simp)) hx
      simp only at p1 p2 hbnd
      have hi0 : (0 : Int) ≤ (k : Int) ∧ (k : Int) < n := by omega
      have hF2 := hF.alloc (.cells #[.int .u32 x1, .int .u32 x2] 40)
      have cT := text1_any x1 x2 (by omega) (by omega) _ (hV.fr hF2)
      have hrow2 := hrow.fr ((Fr.refl [] wr).alloc (.cells #[.int .u32 x1, .int .u32 x2] 40))
      have HX := Lib.hid hx
      have HROW := Lib.hid hrow2
      clear hx hrow hrow2
      go_wp2_with fail
      refine cT.mono ?_
      rintro e w5 ⟨rfl, hG⟩
      have hrow := HROW.out.fr hG
      have q1 := hrow.cell (srow_get (l := l) (k := k) (by rw [HL.out]; exact hlt))
      have q2 := hrow.fz k
      have hF3 := hF2.trans hG
      have hset := hrow.set k (str (x1, x2))
      rw [srow_set HX.out] at hset
      have hF4 := hF3.setCell (p := ⟨g, k, none⟩) (.inr hge) (.string (str (x1, x2)))
      unfold str at hset hF4
      have HSET := Lib.hid hset
      clear hset hrow cT p1 p2
      go_wp2_with fail
      exact ⟨⟨k + 1, by omega, by go_num, HSET.out, hF4⟩, by simp [intOf]; omega⟩
    · obtain rfl : k = n := by omega
      have cJ := join_any g k l wr (by rw [← srow_all, HL.out]; exact hrow) HS.out (by rw [HL.out]; exact hn) (by rw [HL.out]; exact Nat.le_refl _)
      rw [HL.out] at cJ
      clear hrow
      go_wp2_with fail
      refine cJ.mono ?_
      rintro e w5 ⟨rfl, hG⟩
      go_wp2_with fail
      go_ret2
      exact ⟨rfl, hF.trans hG⟩
end Go.Proofs.YtjfadoealhlccaaGreatDoor
