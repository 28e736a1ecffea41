/- Reading the spans of a string. -/
import Derived.Test.YtjfadoealhlccaaGreatDoorSeq
import Derived.Test.YtjfadoealhlccaaGreatDoorCol
namespace Go.Proofs.YtjfadoealhlccaaGreatDoor
open Go.RowKit Go.Shelf
set_option linter.unusedVariables false
attribute [local go_sem] Oper.semAt_some

/-- What is read of a string's parts, behind spans that were read before; none: it is no text. -/
inductive RdL : List Sp → List UInt8 → Option (List Sp) → Prop
  | lastOk {pre : List Sp} {x : List UInt8} {s : Sp} (h : (44 : UInt8) ∉ x) (hr : rdsp x = some s) (hl : pre.length ≠ 4096) : RdL pre x (some (pre ++ [s]))
  | lastNo {pre : List Sp} {x : List UInt8} (h : (44 : UInt8) ∉ x) (hr : rdsp x = none ∨ pre.length = 4096) : RdL pre x none
  | moreOk {pre : List Sp} {x y : List UInt8} {s : Sp} {o : Option (List Sp)} (h : (44 : UInt8) ∉ x) (hr : rdsp x = some s) (hl : pre.length ≠ 4096) (r : RdL (pre ++ [s]) y o) : RdL pre (x ++ 44 :: y) o
  | moreNo {pre : List Sp} {x y : List UInt8} (h : (44 : UInt8) ∉ x) (hr : rdsp x = none ∨ pre.length = 4096) : RdL pre (x ++ 44 :: y) none

/-- What is known between two rounds. -/
structure IR (w00 : World) (h : Nat) (R : Loop) (pre : List Sp) (W : World) : Prop where
  b2 : W.heap[h]? = some (.cells #[.slice none 0 0] 26 (0, 0))
  b3 : W.heap[h + 1]? = some (.cells #[.bool false] 4 (0, 0))
  b4 : ∃ v, W.heap[h + 2]? = some (.cells #[v] 26 (0, 0)) ∧ W.ownsRow (h + 8) 40 2 v pre.length (CS pre)
  bp : W.heap[h + 4]? = some (.cells #[.string ⟨#[44]⟩] 9 (0, 0))
  bz : W.heap[h + 5]? = some (.cells #[.int .i64 0] 3 (0, 0))
  hd : W.heap[h + 6]? = some (.deferred (some []))
  hl : W.heap[h + 7]? = some (.loop R)
  fr : Fr [] w00 W
  sz : h + 8 ≤ W.heap.size
  len : pre.length ≤ 4096
  sb : SB pre
theorem IR.fr' {w00 : World} {h : Nat} {R : Loop} {pre : List Sp} {W W' : World} (hI : IR w00 h R pre W) (hh : w00.heap.size ≤ h) (hF : Fr [h + 3] W W') : IR w00 h R pre W' := by
  obtain ⟨b2, b3, ⟨v, b4, ho⟩, bp, bz, hd, hl, fr, sz, len, sb⟩ := hI
  have hO : ∀ k, v.ownBlock = some k → k ∉ [h + 3] := fun k hk => by
    have := (ho.lt k hk).1
    simp
    omega
  exact ⟨hF.blk b2 (by simp), hF.blk b3 (by simp), ⟨v, hF.blk b4 (by simp), hF.own ho hO⟩, hF.blk bp (by simp), hF.blk bz (by simp), hF.blk hd (by simp), hF.blk hl (by simp), fr.trans2 hF (fun t ht => .inr (by simp at ht; omega)), Nat.le_trans sz hF.size, len, sb⟩
/-- What is known when the body has stopped. -/
structure IX (w00 : World) (h : Nat) (R : Loop) (W : World) : Prop where
  b2 : W.heap[h]? = some (.cells #[.slice none 0 0] 26 (0, 0))
  b3 : W.heap[h + 1]? = some (.cells #[.bool false] 4 (0, 0))
  hd : W.heap[h + 6]? = some (.deferred (some []))
  hl : W.heap[h + 7]? = some (.loop { R with state := .done, pending := some .ret })
  fr : Fr [] w00 W
  sz : h + 8 ≤ W.heap.size
def BodyP (w00 : World) (h : Nat) (R : Loop) (pre : List Sp) (x : List UInt8) (A : World) (e : Ending) (W' : World) : Prop :=
  W'.heap[h + 3]? = A.heap[h + 3]? ∧ ((∃ sp, rdsp x = some sp ∧ pre.length ≠ 4096 ∧ e = .returned (.bool true) ∧ IR w00 h R (pre ++ [sp]) W') ∨ ((rdsp x = none ∨ pre.length = 4096) ∧ e = .returned (.bool false) ∧ IX w00 h R W'))
theorem put_fr (w : World) (l : Nat) (o : Obj) : Fr [l] w (w.putObj l o) := (Fr.refl _ _).grown (grownBy_putObj' _ _ _) (by intro k e; cases e; exact .inl (by simp))
theorem stop_ok {w00 A wx : World} {h : Nat} {R R' : Loop} {pre : List Sp} {x : List UInt8} (b2 : wx.heap[h]? = some (.cells #[.slice none 0 0] 26 (0, 0))) (b3 : wx.heap[h + 1]? = some (.cells #[.bool false] 4 (0, 0)))
    (hd : wx.heap[h + 6]? = some (.deferred (some []))) (hR : R' = { R with state := .done, pending := some .ret }) (fr : Fr [] w00 wx) (sz : h + 8 ≤ wx.heap.size) (hb33 : wx.heap[h + 3]? = A.heap[h + 3]?) (hw : w00.heap.size ≤ h) (hc : rdsp x = none ∨ pre.length = 4096) :
    BodyP w00 h R pre x A (.returned (.bool false)) (wx.putObj (h + 7) (.loop R')) := by
  subst hR
  have hF := put_fr wx (h + 7) (.loop { R with state := .done, pending := some .ret })
  exact ⟨(hF.block _ (by omega) (by simp)).trans hb33, .inr ⟨hc, rfl, hF.blk b2 (by simp), hF.blk b3 (by simp), hF.blk hd (by simp), World.putObj_heap_same (by omega), fr.trans2 hF (fun t ht => .inr (by simp at ht; omega)), Nat.le_trans sz hF.size⟩⟩
theorem more_ok {w00 A wx : World} {h : Nat} {R R' : Loop} {pre : List Sp} {x : List UInt8} {sp : Sp} {v : Value} (b2 : wx.heap[h]? = some (.cells #[.slice none 0 0] 26 (0, 0))) (b3 : wx.heap[h + 1]? = some (.cells #[.bool false] 4 (0, 0)))
    (b4 : wx.heap[h + 2]? = some (.cells #[v] 26 (0, 0))) (ho : wx.ownsRow (h + 8) 40 2 v (pre ++ [sp]).length (CS (pre ++ [sp])))
    (bp : wx.heap[h + 4]? = some (.cells #[.string ⟨#[44]⟩] 9 (0, 0))) (bz : wx.heap[h + 5]? = some (.cells #[.int .i64 0] 3 (0, 0)))
    (hd : wx.heap[h + 6]? = some (.deferred (some []))) (hR : R' = R) (fr : Fr [] w00 wx) (sz : h + 8 ≤ wx.heap.size) (len : pre.length ≤ 4096) (sb : SB pre) (s1 : sp.1 < 4294967296) (s2 : sp.2 < 4294967296) (hb33 : wx.heap[h + 3]? = A.heap[h + 3]?) (hw : w00.heap.size ≤ h) (hc : rdsp x = some sp) (hn : pre.length ≠ 4096) :
    BodyP w00 h R pre x A (.returned (.bool true)) (wx.putObj (h + 7) (.loop R')) := by
  subst hR
  have hF := put_fr wx (h + 7) (.loop R')
  exact ⟨(hF.block _ (by omega) (by simp)).trans hb33, .inl ⟨sp, hc, hn, rfl, hF.blk b2 (by simp), hF.blk b3 (by simp), ⟨v, hF.blk b4 (by simp), hF.own ho (fun k hk => by have := (ho.lt k hk).1; simp; omega)⟩, hF.blk bp (by simp), hF.blk bz (by simp), hF.blk hd (by simp), World.putObj_heap_same (by omega), fr.trans2 hF (fun t ht => .inr (by simp at ht; omega)), Nat.le_trans sz hF.size, by simp; omega, sb.app (SB.one s1 s2)⟩⟩
theorem set_same {w : World} {b : Nat} {v : Value} {t : TypeId} (h : w.heap[b]? = some (.cells #[v] t (0, 0))) : w.setCell ⟨b, 0, none⟩ v = w := by
  have hlt := (Array.getElem?_eq_some_iff.1 h).1
  have : (w.setCell ⟨b, 0, none⟩ v).heap = w.heap := by
    apply Array.ext_getElem?
    intro i
    simp only [World.setCell, Array.getElem?_modify]
    by_cases e : b = i
    · subst e
      rw [if_pos rfl, h]
      simp
    · rw [if_neg e]
  cases w
  simp only [World.setCell] at this ⊢
  simp only [this]
theorem seq_any (s : ByteArray) (W : World) : Calls Tryz.prog 54 #[.string s, .string ⟨#[44]⟩] W fun e w' => e = .returned (.func (.func 89) #[] #[.pointer (some ⟨W.heap.size + 1, 0, none⟩), .pointer (some ⟨W.heap.size, 0, none⟩), .pointer (some ⟨W.heap.size + 2, 0, none⟩)]) ∧ w' = ((W.alloc (.cells #[.string s] 9)).alloc (.cells #[.string ⟨#[44]⟩] 9)).alloc (.cells #[.int .i64 0] 3) := by
  have h2 : Calls Tryz.prog 70 #[.string s, .string ⟨#[44]⟩, .int .i64 0] W fun e w' => e = .returned (.func (.func 89) #[] #[.pointer (some ⟨W.heap.size + 1, 0, none⟩), .pointer (some ⟨W.heap.size, 0, none⟩), .pointer (some ⟨W.heap.size + 2, 0, none⟩)]) ∧ w' = ((W.alloc (.cells #[.string s] 9)).alloc (.cells #[.string ⟨#[44]⟩] 9)).alloc (.cells #[.int .i64 0] 3) := by
    go_enter Tryz.func70, Tryz.ntmps70
    go_wp2
    go_ret
    exact ⟨rfl, rfl⟩
  go_enter Tryz.func54, Tryz.ntmps54
  go_wp2_with fail
  refine h2.mono ?_
  rintro e w' ⟨rfl, rfl⟩
  go_wp2
  go_ret
  exact ⟨rfl, rfl⟩
theorem res_any (tm : Array Value) (W : World) (a b : Nat) (v u : Value) (h2 : tm.getD 2 undef = .pointer (some ⟨a, 0, none⟩)) (h3 : tm.getD 3 undef = .pointer (some ⟨b, 0, none⟩)) (q2 : W.cell? ⟨a, 0, none⟩ = some v) (q3 : W.cell? ⟨b, 0, none⟩ = some u) :
    (results Tryz.f38 tm).run Tryz.prog W = .ok (.tuple #[v, u]) W := by
  have e : Tryz.f38.results = #[.cell 2 26, .cell 3 4] := rfl
  have l2 : (loadVar 26 ⟨a, 0, none⟩).run Tryz.prog W = .ok v W := by go_simp
  have l3 : (loadVar 4 ⟨b, 0, none⟩).run Tryz.prog W = .ok u W := by go_simp
  have a2 : (asAddr (tm[2]?.getD undef)).run Tryz.prog W = .ok ⟨a, 0, none⟩ W := by
    have h : tm[2]?.getD undef = .pointer (some ⟨a, 0, none⟩) := by simpa using h2
    rw [h]; rfl
  have a3 : (asAddr (tm[3]?.getD undef)).run Tryz.prog W = .ok ⟨b, 0, none⟩ W := by
    have h : tm[3]?.getD undef = .pointer (some ⟨b, 0, none⟩) := by simpa using h3
    rw [h]; rfl
  simp only [results, e]
  simp [Sem.run_bind, Result.andThen, a2, a3, l2, l3]
def RdsP (l : List UInt8) (w : World) (e : Ending) (W' : World) : Prop :=
  Fr [] w W' ∧ ((∃ L v, RdL [] l (some L) ∧ L.length ≤ 4096 ∧ SB L ∧ e = .returned (.tuple #[v, .bool true]) ∧ W'.ownsRow w.heap.size 40 2 v L.length (CS L)) ∨ (RdL [] l none ∧ e = .returned (.tuple #[.slice none 0 0, .bool false])))
set_option maxRecDepth 100000 in
set_option maxHeartbeats 4000000 in
theorem readSpans_in (s : ByteArray) (hne : s.data.toList ≠ []) (hs : s.size ≤ 281474976710656) (w : World) (hV : VV w) :
    CallsIn Fence.wide 5 Tryz.prog 38 #[.string s] w (RdsP s.data.toList w) := by
  have hb : (s.toList == []) = false := by
    rw [beq_eq_false_iff_ne]
    intro h
    have h2 := Lib.toList_data (s := s)
    rw [h] at h2
    exact hne h2.symm
  have hq := seq_any s (((w.alloc (.cells #[.slice none 0 0] 26)).alloc (.cells #[.bool false] 4)).alloc (.cells #[.slice none 0 0] 26))
  have hw0 : (((w.alloc (.cells #[.slice none 0 0] 26)).alloc (.cells #[.bool false] 4)).alloc (.cells #[.slice none 0 0] 26)).heap.size = w.heap.size + 3 := by simp
  rw [hw0] at hq
  refine callsIn_of_wp_marks Tryz.func38 rfl trivial ?_ rfl
  simp only [Tryz.ntmps38, List.size_toArray, List.length_cons, List.length_nil, Nat.reduceAdd, Nat.reduceSub, Array.replicate_succ, Array.replicate_zero, List.push_toArray, List.append_toArray, List.nil_append, List.cons_append]
  gi_wp2_with (first
        | (refine ⟨trivial, ?_⟩; refine (callsIn_wide.2 hq).mono ?_; rintro e w1 ⟨rfl, rfl⟩))
  clear hq hw0
  have F0 : Fr [] w (((((( w.alloc (.cells #[.slice none 0 0] 26)).alloc (.cells #[.bool false] 4)).alloc (.cells #[.slice none 0 0] 26)).alloc (.cells #[.string s] 9)).alloc (.cells #[.string ⟨#[44]⟩] 9)).alloc (.cells #[.int .i64 0] 3)) := ((((((Fr.refl _ _).alloc _).alloc _).alloc _).alloc _).alloc _).alloc _
  have hE : ∀ j, (((((( w.alloc (.cells #[.slice none 0 0] 26)).alloc (.cells #[.bool false] 4)).alloc (.cells #[.slice none 0 0] 26)).alloc (.cells #[.string s] 9)).alloc (.cells #[.string ⟨#[44]⟩] 9)).alloc (.cells #[.int .i64 0] 3)).heap[w.heap.size + j]? = (#[(.cells #[.slice none 0 0] 26 : Obj), .cells #[.bool false] 4, .cells #[.slice none 0 0] 26, .cells #[.string s] 9, .cells #[.string ⟨#[44]⟩] 9, .cells #[.int .i64 0] 3])[j]? := by
    intro j
    have e : (((((( w.alloc (.cells #[.slice none 0 0] 26)).alloc (.cells #[.bool false] 4)).alloc (.cells #[.slice none 0 0] 26)).alloc (.cells #[.string s] 9)).alloc (.cells #[.string ⟨#[44]⟩] 9)).alloc (.cells #[.int .i64 0] 3)).heap = w.heap ++ #[(.cells #[.slice none 0 0] 26 : Obj), .cells #[.bool false] 4, .cells #[.slice none 0 0] 26, .cells #[.string s] 9, .cells #[.string ⟨#[44]⟩] 9, .cells #[.int .i64 0] 3] := by
      show (((((w.heap.push _).push _).push _).push _).push _).push _ = _
      simp only [Array.push_eq_append, Array.append_assoc]
      rfl
    rw [e, Array.getElem?_append_right (by omega)]
    congr 1
    omega
  have hwe : ((((((w.alloc (.cells #[.slice none 0 0] 26)).alloc (.cells #[.bool false] 4)).alloc (.cells #[.slice none 0 0] 26)).alloc (.cells #[.string s] 9)).alloc (.cells #[.string ⟨#[44]⟩] 9)).alloc (.cells #[.int .i64 0] 3)).heap.size = w.heap.size + 6 := by simp
  generalize ((((((w.alloc (.cells #[.slice none 0 0] 26)).alloc (.cells #[.bool false] 4)).alloc (.cells #[.slice none 0 0] 26)).alloc (.cells #[.string s] 9)).alloc (.cells #[.string ⟨#[44]⟩] 9)).alloc (.cells #[.int .i64 0] 3)) = wE at F0 hE hwe ⊢
  simp only [Nat.add_assoc, Nat.reduceAdd] at *
  refine wpIn_rangeFunc ?_
  intro fn hfn
  refine ⟨_, _, _, { target := .fn (.func 89) #[.pointer (some ⟨w.heap.size + 4, 0, none⟩), .pointer (some ⟨w.heap.size + 3, 0, none⟩), .pointer (some ⟨w.heap.size + 5, 0, none⟩)], args := #[.func (.yield (wE.heap.size + 1)) #[] #[]] }, ?wa, 89, #[.func (.yield (wE.heap.size + 1)) #[] #[], .pointer (some ⟨w.heap.size + 4, 0, none⟩), .pointer (some ⟨w.heap.size + 3, 0, none⟩), .pointer (some ⟨w.heap.size + 5, 0, none⟩)], ?wb, run_enterLoop_outer _ _ _ _ _, ?ha, ?hb, ?hc, fun _ => by decide, ?_⟩
  case ha =>
    have ht : ∀ W, (resolve (Act.eval { tmps := #[.string s, undef, .pointer (some ⟨w.heap.size, 0, none⟩), .pointer (some ⟨w.heap.size + 1, 0, none⟩), .pointer (some ⟨w.heap.size + 2, 0, none⟩), undef, undef, undef, .string s, .bool false, .string s, .func (.func 89) #[] #[.pointer (some ⟨w.heap.size + 4, 0, none⟩), .pointer (some ⟨w.heap.size + 3, 0, none⟩), .pointer (some ⟨w.heap.size + 5, 0, none⟩)], undef, undef, undef, undef, undef, undef, undef, undef, undef, undef, undef, undef, undef, undef, undef, undef, undef, undef], defers := [] }) (rangeCall (.tmp 11) (wE.heap.size + 1)) 0).run Tryz.prog W = .ok { target := .fn (.func 89) #[.pointer (some ⟨w.heap.size + 4, 0, none⟩), .pointer (some ⟨w.heap.size + 3, 0, none⟩), .pointer (some ⟨w.heap.size + 5, 0, none⟩)], args := #[.func (.yield (wE.heap.size + 1)) #[] #[]] } W := fun W => by
      simp only [resolve]
      simp [go_sem]
    exact ht _
  case hb => intro f' hf'; trivial
  case hc =>
    have ht : ∀ W, (invoke (.fn (.func 89) #[.pointer (some ⟨w.heap.size + 4, 0, none⟩), .pointer (some ⟨w.heap.size + 3, 0, none⟩), .pointer (some ⟨w.heap.size + 5, 0, none⟩)]) #[.func (.yield (wE.heap.size + 1)) #[] #[]]).run Tryz.prog W = .ok (.enter 89 #[.func (.yield (wE.heap.size + 1)) #[] #[], .pointer (some ⟨w.heap.size + 4, 0, none⟩), .pointer (some ⟨w.heap.size + 3, 0, none⟩), .pointer (some ⟨w.heap.size + 5, 0, none⟩)]) W := fun W => by
      simp [invoke, go_sem]
    exact ht _
  · generalize hRec : (Loop.mk _ _ _ _ _ _ _ _) = R
    have hH : ∀ k, wE.heap.size + k = w.heap.size + (6 + k) := fun k => by omega
    have hl1 : ((wE.alloc (.deferred (some []))).alloc (.loop R)).heap[w.heap.size + 7]? = some (.loop R) := by
      have h1 : (wE.alloc (.deferred (some []))).heap.size = w.heap.size + 7 := by simp [hwe]
      rw [← h1]; exact last_block _ _
    have hd1 : ((wE.alloc (.deferred (some []))).alloc (.loop R)).heap[w.heap.size + 6]? = some (.deferred (some [])) := by
      rw [← hwe]
      exact ((Fr.refl [] _).alloc _).blk (last_block _ _) (by simp)
    have hF1 : Fr [] wE ((wE.alloc (.deferred (some []))).alloc (.loop R)) := ((Fr.refl _ _).alloc _).alloc _
    have hs1 : ((wE.alloc (.deferred (some []))).alloc (.loop R)).heap.size = w.heap.size + 8 := by simp [hwe]
    generalize (wE.alloc (.deferred (some []))).alloc (.loop R) = W1 at hl1 hd1 hF1 hs1 ⊢
    have hI1 : IR w w.heap.size R [] W1 := ⟨hF1.blk (hE 0) (by simp), hF1.blk (hE 1) (by simp), ⟨_, hF1.blk (hE 2) (by simp), World.ownsRow_nil _ _ _ _⟩, hF1.blk (hE 4) (by simp), hF1.blk (hE 5) (by simp), hd1, hl1, F0.trans hF1, by omega, by simp, by intro x hx; cases hx⟩
    have hB3 := hF1.blk (hE 3) (by simp)
    rw [show wE.heap.size = w.heap.size + 6 from hwe] at *
    simp only [Nat.add_assoc, Nat.reduceAdd] at *
    clear hl1 hd1 hF1 hs1 F0 hE hH
    have hBody : ∀ (pre : List Sp) (x : List UInt8) (A : World), IR w w.heap.size R pre A → x.length ≤ 281474976710656 → YieldAt Fence.wide 3 Tryz.prog (w.heap.size + 7) #[.string ⟨x.toArray⟩] A (BodyP w w.heap.size R pre x A) := by
      intro pre x A hI hx
      have hl := hI.hl
      have hy := run_yield (P := Tryz.prog) (args := #[.string ⟨x.toArray⟩]) hl (by rw [← hRec]; rfl)
      refine ⟨_, _, _, _, hy, roundIn_of_wpIn trivial ?_⟩
      have hst : R.state = .ready := by rw [← hRec]
      have hbeg := run_beginRound (P := Tryz.prog) hl hst
      have hFp : Fr [w.heap.size + 7] A (A.putObj (w.heap.size + 7) (.loop { R with state := .busy })) := (Fr.refl _ _).grown (grownBy_putObj' _ _ _) (by intro k e; cases e; exact .inl (by simp))
      have hsz := hI.sz
      have hl2 : (A.putObj (w.heap.size + 7) (.loop { R with state := .busy })).heap[w.heap.size + 7]? = some (.loop { R with state := .busy }) := World.putObj_heap_same (by omega)
      generalize A.putObj (w.heap.size + 7) (.loop { R with state := .busy }) = A2 at hbeg hFp hl2
      obtain ⟨b2, b3, ⟨v, b4, ho⟩, bp, bz, hd, _, fr, sz, len, sb⟩ := hI
      replace b2 := hFp.blk b2 (by simp)
      replace b3 := hFp.blk b3 (by simp)
      replace b4 := hFp.blk b4 (by simp)
      replace hd := hFp.blk hd (by simp)
      replace bp := hFp.blk bp (by simp)
      replace bz := hFp.blk bz (by simp)
      have hb33 : A2.heap[w.heap.size + 3]? = A.heap[w.heap.size + 3]? := hFp.block _ (by omega) (by simp)
      have ho2 := hFp.own ho (fun k hk => by have := (ho.lt k hk).1; simp; omega)
      have fr2 : Fr [] w A2 := fr.trans2 hFp (fun t ht => .inr (by simp at ht; omega))
      have hV2 := hV.fr fr2
      have hS := readSpan_any ⟨x.toArray⟩ (by rw [size_of]; exact hx) A2 hV2
      have sz2 : w.heap.size + 8 ≤ A2.heap.size := Nat.le_trans sz hFp.size
      have HR := Lib.hid hRec
      have HBEG := Lib.hid hbeg
      have HB33 := Lib.hid hb33
      clear hRec hbeg hFp hy fr ho hV hb33
      have e2 := congrArg Loop.tmps HR.out
      have e3 := congrArg Loop.params HR.out
      have e4 := congrArg Loop.assign HR.out
      have e5 := congrArg Loop.body HR.out
      dsimp only at e2 e3 e4 e5
      rw [← e2, ← e3, ← e4, ← e5]
      clear e2 e3 e4 e5
      have HL2 := Lib.hid hl2
      clear hl2 hl
      obtain ⟨PP, hPP⟩ : ∃ PP, PP = BodyP w w.heap.size R pre x A := ⟨_, rfl⟩
      rw [← hPP]
      have HPP := Lib.hid hPP
      clear hPP
      simp only [Array.zip]
      gi_wp2
      refine ⟨_, HBEG.out, ?_⟩
      clear HBEG
      gi_wp2_with fail
      refine ⟨trivial, ?_⟩
      refine (callsIn_wide.2 hS).mono ?_
      rintro e w3 ⟨hF3, ⟨u, v', hr3, hu, hv', rfl⟩ | ⟨hr3, rfl⟩⟩
      · obtain ⟨vA, vc, rfl, hvc, hvm, hvb⟩ := own_slice ho2
        replace b2 := hF3.blk b2 (by simp)
        replace b3 := hF3.blk b3 (by simp)
        replace b4 := hF3.blk b4 (by simp)
        replace bp := hF3.blk bp (by simp)
        replace bz := hF3.blk bz (by simp)
        replace hd := hF3.blk hd (by simp)
        replace HL2 := Lib.hid (hF3.blk HL2.out (by simp))
        replace HB33 := Lib.hid ((hF3.block (w.heap.size + 3) (by omega) (by simp)).trans HB33.out)
        replace ho2 := hF3.own ho2 (by simp)
        replace fr2 := fr2.trans hF3
        replace sz2 := Nat.le_trans sz2 hF3.size
        clear hF3 hV2 hS
        have c4 := blk_cell (j := 0) b4 rfl
        have hBX : Fr [] w3 (w3.alloc (.cells #[.int .u32 u, .int .u32 v'] 40)) := (Fr.refl _ _).alloc _
        have c41 := hBX.cell c4 (by simp)
        by_cases hl4 : pre.length = 4096
        · have dl : ((pre.length : Int) == 4096) = true := by rw [beq_iff_eq]; omega
          have f2 := blk_fz (j := 0) (hBX.blk b2 (by simp))
          have f3 := blk_fz (j := 0) (hBX.blk b3 (by simp))
          have c2 := blk_cell (j := 0) (hBX.blk b2 (by simp)) rfl
          have c3 := blk_cell (j := 0) (hBX.blk b3 (by simp)) rfl
          gi_wp2
          rw [set_same (hBX.blk b2 (by simp)), set_same (hBX.blk b3 (by simp))]
          have hend := run_endRound (P := Tryz.prog) (some .ret) (hBX.blk HL2.out (by simp))
          refine ⟨_, _, hend, ?_⟩
          rw [HPP.out]
          exact stop_ok (hBX.blk b2 (by simp)) (hBX.blk b3 (by simp)) (hBX.blk hd (by simp)) rfl (fr2.trans hBX) (Nat.le_trans sz2 hBX.size) ((hBX.block _ (by omega) (by simp)).trans HB33.out) (Nat.le_refl _) (.inr hl4)
        · have dl : ((pre.length : Int) == 4096) = false := by rw [beq_eq_false_iff_ne]; omega
          have f4 := blk_fz (j := 0) b4
          have hown4 : (w3.alloc (.cells #[.int .u32 u, .int .u32 v'] 40)).ownsRow (w.heap.size + 8) 40 2 (.slice vA pre.length vc) pre.length (CS pre) := ho2.alloc _
          obtain ⟨i0, hi, hz0, hz1, hz2⟩ := info_parts spanInfo
          have hob : w.heap.size + 2 ∉ (Value.slice vA pre.length vc).ownBlock.toList := fun hm => by
            have := (ho2.lt _ (Option.mem_toList.1 hm)).1
            omega
          have hsB := hBX.size
          have b4X := hBX.blk b4 (by simp)
          have HX1 := Lib.hid b4X
          have HX2 := Lib.hid (show (w3.alloc (.cells #[.int .u32 u, .int .u32 v'] 40)).heap.size = w3.heap.size + 1 by simp)
          clear b4X
          gi_wp2_with (first
            | (gi_at_builtin; go_must (
               refine wpListIn_append_own _ rfl _ _ 26 rfl (w.heap.size + 8) 40 i0 _ 2 8 Tryz.underlying26 hi hz0 hz1 hz2 rfl (by decide) _ _ _ rfl (hown4.alloc _) _ 1 1 [.int .u32 u, .int .u32 v'] rfl rfl ?hcl (by simp [Value.oneCell']) (by simp only [maxLen]; omega) (by omega) (by simp; omega) ?_
               case hcl =>
                 intro j uu hu
                 rw [Lib.add_plain, Nat.zero_add, ← HX2.out]
                 exact new_cell (w3.alloc (.cells #[.int .u32 u, .int .u32 v'] 40)) #[.int .u32 u, .int .u32 v'] 40 j uu (by simpa using hu)
               intro v2 w5 hown5 hgrow _
               obtain ⟨A', c', rfl, _, _, _⟩ := own_slice hown5
               have hFA : Fr (Value.slice vA pre.length vc).ownBlock.toList ((w3.alloc (.cells #[.int .u32 u, .int .u32 v'] 40)).alloc (.cells #[.int .u32 u, .int .u32 v'] 40)) w5 := fr_grown hgrow
               have y1 := hFA.blk (((Fr.refl [] _).alloc _).blk HX1.out (by simp)) hob
               have y2 := blk_cell (j := 0) y1 rfl
               have y3 := blk_fz (j := 0) y1)))
          clear hgrow
          have hO : ∀ k ∈ (Value.slice vA pre.length vc).ownBlock.toList, w.heap.size + 8 ≤ k := fun k hk => (ho2.lt _ (Option.mem_toList.1 hk)).1
          have hF6 : Fr ((w.heap.size + 2) :: (Value.slice vA pre.length vc).ownBlock.toList) w3 (w5.setCell ⟨w.heap.size + 2, 0, none⟩ (.slice A' (pre.length + 1) c')) :=
            ((hBX.nil.alloc _).trans2 hFA (fun t ht => .inl (by simp only [List.mem_cons]; exact .inr ht))).setCell (.inl (by simp)) _
          have hN : ∀ k, k < 8 → k ≠ 2 → w.heap.size + k ∉ (w.heap.size + 2) :: (Value.slice vA pre.length vc).ownBlock.toList := fun k hk h2 hm => by
            simp only [List.mem_cons] at hm
            rcases hm with hm | hm
            · omega
            · have := hO _ hm; omega
          have b46 : (w5.setCell ⟨w.heap.size + 2, 0, none⟩ (.slice A' (pre.length + 1) c')).heap[w.heap.size + 2]? = some (.cells #[.slice A' (pre.length + 1) c'] 26 (0, 0)) := by
            simp [World.setCell, Array.getElem?_modify, y1]
          have ho6 := ownsRow_setCell_below hown5 (a := ⟨w.heap.size + 2, 0, none⟩) (by show w.heap.size + 2 < w.heap.size + 8; omega) (.slice A' (pre.length + 1) c')
          generalize w5.setCell ⟨w.heap.size + 2, 0, none⟩ (.slice A' (pre.length + 1) c') = w6 at hF6 b46 ho6 ⊢
          have hend := run_endRound (P := Tryz.prog) none (hF6.blk HL2.out (hN 7 (by omega) (by omega)))
          have hpd : R.pending = none := by rw [← HR.out]
          refine ⟨_, _, hend, ?_⟩
          rw [HPP.out]
          refine more_ok (v := .slice A' (pre.length + 1) c') (sp := (u, v')) (hF6.blk b2 (hN 0 (by omega) (by omega))) (hF6.blk b3 (hN 1 (by omega) (by omega))) b46 ?_ (hF6.blk bp (hN 4 (by omega) (by omega))) (hF6.blk bz (hN 5 (by omega) (by omega))) (hF6.blk hd (hN 6 (by omega) (by omega))) ?_ (fr2.trans2 hF6 ?_) (Nat.le_trans sz2 hF6.size) len sb hu hv' ((hF6.block _ (by omega) (hN 3 (by omega) (by omega))).trans HB33.out) (Nat.le_refl _) hr3 hl4
          · rw [List.length_append, CS_snoc]
            exact ho6
          · cases R
            simp only at hst hpd
            subst hst hpd
            rfl
          · intro t ht
            right
            simp only [List.mem_cons] at ht
            rcases ht with ht | ht
            · omega
            · have := hO _ ht; omega
      · replace b2 := hF3.blk b2 (by simp)
        replace b3 := hF3.blk b3 (by simp)
        replace hd := hF3.blk hd (by simp)
        replace HL2 := Lib.hid (hF3.blk HL2.out (by simp))
        replace HB33 := Lib.hid ((hF3.block (w.heap.size + 3) (by omega) (by simp)).trans HB33.out)
        replace fr2 := fr2.trans hF3
        replace sz2 := Nat.le_trans sz2 hF3.size
        clear hF3 hV2 hS b4 ho2
        have hBX : Fr [] w3 (w3.alloc (.cells #[.int .u32 0, .int .u32 0] 40)) := (Fr.refl _ _).alloc _
        have f2 := blk_fz (j := 0) (hBX.blk b2 (by simp))
        have f3 := blk_fz (j := 0) (hBX.blk b3 (by simp))
        have c2 := blk_cell (j := 0) (hBX.blk b2 (by simp)) rfl
        have c3 := blk_cell (j := 0) (hBX.blk b3 (by simp)) rfl
        gi_wp2
        rw [set_same (hBX.blk b2 (by simp)), set_same (hBX.blk b3 (by simp))]
        have hend := run_endRound (P := Tryz.prog) (some .ret) (hBX.blk HL2.out (by simp))
        refine ⟨_, _, hend, ?_⟩
        rw [HPP.out]
        exact stop_ok (hBX.blk b2 (by simp)) (hBX.blk b3 (by simp)) (hBX.blk hd (by simp)) rfl (fr2.trans hBX) (Nat.le_trans sz2 hBX.size) ((hBX.block _ (by omega) (by simp)).trans HB33.out) (Nat.le_refl _) (.inl hr3)
    obtain ⟨l0, hl0⟩ : ∃ l0, l0 = s.data.toList := ⟨_, rfl⟩
    have hsl : l0.length ≤ 281474976710656 := by rw [hl0, ← size_of]; exact hs
    have hsd : s = ⟨l0.toArray⟩ := str_of hl0.symm
    have hB3' : W1.heap[w.heap.size + 3]? = some (.cells #[.string ⟨l0.toArray⟩] 9 (0, 0)) := by rw [← hsd]; exact hB3
    have HL0 := Lib.hid hl0
    have HR := Lib.hid hRec
    refine (split1_in 4 (w.heap.size + 7) (w.heap.size + 3) (w.heap.size + 4) (w.heap.size + 5) (by decide)
      (fun r W => (∃ pre, (∀ o, RdL pre r o → RdL [] l0 o) ∧ IR w w.heap.size R pre W) ∧ r.length ≤ 281474976710656)
      (fun W => (∃ L, RdL [] l0 (some L) ∧ IR w w.heap.size R L W) ∨ (RdL [] l0 none ∧ IX w w.heap.size R W)) ?hK ?hKc ?hY ?hL W1 l0 (blk_cell (j := 0) hB3' rfl) (blk_fz (j := 0) hB3') ⟨⟨[], fun _ h => h, hI1⟩, hsl⟩).mono ?_
    case hK =>
      rintro r W W' ⟨⟨pre, h1, h2⟩, h3⟩ hF
      exact ⟨⟨pre, h1, h2.fr' (Nat.le_refl _) hF⟩, h3⟩
    case hKc =>
      rintro r W ⟨⟨pre, h1, h2⟩, h3⟩
      exact ⟨blk_cell (j := 0) h2.bp rfl, blk_cell (j := 0) h2.bz rfl, h3⟩
    case hY =>
      rintro x y W ⟨⟨pre, h1, h2⟩, h3⟩ hx
      refine (hBody pre x W h2 (by simp at h3; omega)).mono ?_
      rintro e W' ⟨hb, ⟨sp, hr, hn, rfl, hI⟩ | ⟨hr, rfl, hI⟩⟩
      · exact ⟨hb, .inl ⟨rfl, ⟨pre ++ [sp], fun o ho => h1 o (.moreOk hx hr hn ho), hI⟩, by simp at h3; omega⟩⟩
      · exact ⟨hb, .inr ⟨rfl, .inr ⟨h1 _ (.moreNo hx hr), hI⟩⟩⟩
    case hL =>
      rintro x W ⟨⟨pre, h1, h2⟩, h3⟩ hx
      refine (hBody pre x W h2 h3).mono ?_
      rintro e W' ⟨hb, ⟨sp, hr, hn, rfl, hI⟩ | ⟨hr, rfl, hI⟩⟩
      · exact ⟨⟨_, rfl⟩, .inl ⟨_, h1 _ (.lastOk hx hr hn), hI⟩⟩
      · exact ⟨⟨_, rfl⟩, .inr ⟨h1 _ (.lastNo hx hr), hI⟩⟩
    rintro e W2 ⟨⟨v0, rfl⟩, ⟨L, hRd, hI⟩ | ⟨hRd, hI⟩⟩
    · have hst : R.state = .ready := by rw [← HR.out]
      have hpd : R.pending = none := by rw [← HR.out]
      have hend := run_endLoop (P := Tryz.prog) hI.hl (by rw [hst]; simp)
      rw [hpd] at hend
      have hsz := hI.sz
      have hF5 := put_fr W2 (w.heap.size + 7) (.loop { R with state := .exhausted, pending := none })
      clear hRec
      obtain ⟨b2, b3, ⟨v, b4, ho⟩, bp, bz, hd, _, fr, sz, len, sb⟩ := hI
      replace hend : (Instr.endLoop (w.heap.size + 7)).run Tryz.prog W2 = .ok none (W2.putObj (w.heap.size + 7) (.loop { R with state := .exhausted, pending := none })) := by rw [hend, ← hpd]
      generalize W2.putObj (w.heap.size + 7) (.loop { R with state := .exhausted, pending := none }) = W5 at hF5 hend
      replace b2 := hF5.blk b2 (by simp)
      replace b3 := hF5.blk b3 (by simp)
      replace b4 := hF5.blk b4 (by simp)
      replace hd := hF5.blk hd (by simp)
      replace ho := hF5.own ho (fun k hk => by have := (ho.lt k hk).1; simp; omega)
      replace fr : Fr [] w W5 := fr.trans2 hF5 (fun t ht => .inr (by simp at ht; omega))
      obtain ⟨vA, vc, rfl, _, _, _⟩ := own_slice ho
      have c2 : W5.cell? ⟨w.heap.size, 0, none⟩ = some (.slice none 0 0) := blk_cell b2 rfl
      have c3 : W5.cell? ⟨w.heap.size + 1, 0, none⟩ = some (.bool false) := blk_cell b3 rfl
      have c4 : W5.cell? ⟨w.heap.size + 2, 0, none⟩ = some (.slice vA L.length vc) := blk_cell b4 rfl
      have f2 : W5.frozen? ⟨w.heap.size, 0, none⟩ = false := blk_fz b2
      have f3 : W5.frozen? ⟨w.heap.size + 1, 0, none⟩ = false := blk_fz b3
      refine ⟨none, W5, hend, ?_⟩
      have HLEN := Lib.hid len
      have HSB := Lib.hid sb
      have HRD := Lib.hid hRd
      have HB2 := Lib.hid b2
      have HB3 := Lib.hid b3
      have HD := Lib.hid hd
      have HO := Lib.hid ho
      clear hend hF5 HR hBody hI1 hB3 hB3' len sb hRd b2 b3 b4 hd bp bz ho hsz sz hpd hst hl0 hsl hsd
      simp only
      gi_wp2
      have hF6 : Fr [w.heap.size, w.heap.size + 1] W5 ((W5.setCell ⟨w.heap.size, 0, none⟩ (.slice vA L.length vc)).setCell ⟨w.heap.size + 1, 0, none⟩ (.bool true)) := ((Fr.refl _ _).setCell (.inl (by simp)) _).setCell (.inl (by simp)) _
      have r2 : ((W5.setCell ⟨w.heap.size, 0, none⟩ (.slice vA L.length vc)).setCell ⟨w.heap.size + 1, 0, none⟩ (.bool true)).heap[w.heap.size]? = some (.cells #[.slice vA L.length vc] 26 (0, 0)) := by
        simp [World.setCell, Array.getElem?_modify, HB2.out]
      have r3 : ((W5.setCell ⟨w.heap.size, 0, none⟩ (.slice vA L.length vc)).setCell ⟨w.heap.size + 1, 0, none⟩ (.bool true)).heap[w.heap.size + 1]? = some (.cells #[.bool true] 4 (0, 0)) := by
        simp [World.setCell, Array.getElem?_modify, HB3.out]
      generalize (W5.setCell ⟨w.heap.size, 0, none⟩ (.slice vA L.length vc)).setCell ⟨w.heap.size + 1, 0, none⟩ (.bool true) = W6 at hF6 r2 r3 ⊢
      have hd6 := hF6.blk HD.out (by simp)
      have hF7 := put_fr W6 (w.heap.size + 6) (.deferred none)
      have ho6 := hF6.own HO.out (fun k hk => by have := (HO.out.lt k hk).1; simp; omega)
      have ho7 := hF7.own ho6 (fun k hk => by have := (ho6.lt k hk).1; simp; omega)
      have q2 : (W6.putObj (w.heap.size + 6) (.deferred none)).cell? ⟨w.heap.size, 0, none⟩ = some (.slice vA L.length vc) := blk_cell (hF7.blk r2 (by simp)) rfl
      have q3 : (W6.putObj (w.heap.size + 6) (.deferred none)).cell? ⟨w.heap.size + 1, 0, none⟩ = some (.bool true) := blk_cell (hF7.blk r3 (by simp)) rfl
      refine ⟨by simp, .inl ⟨_, _, rfl, run_takeDeferred hd6, ?_⟩⟩
      generalize W6.putObj (w.heap.size + 6) (.deferred none) = W7 at hF7 ho7 q2 q3 ⊢
      have hl0 := HL0.out
      refine ⟨_, res_any _ _ w.heap.size (w.heap.size + 1) (.slice vA L.length vc) (.bool true) rfl rfl q2 q3, ?_⟩
      have hF67 : Fr [] w W7 := (fr.trans2 hF6 (fun t ht => .inr (by simp at ht; omega))).trans2 hF7 (fun t ht => .inr (by simp at ht; omega))
      exact ⟨hF67, .inl ⟨L, _, by rw [← hl0]; exact HRD.out, HLEN.out, HSB.out, rfl, own_ext ho7 (by omega)⟩⟩
    · have hend := run_endLoop (P := Tryz.prog) hI.hl (by simp)
      obtain ⟨b2, b3, hd, hl, fr, sz⟩ := hI
      simp only at hend
      have hF5 := put_fr W2 (w.heap.size + 7) (.loop { R with state := .exhausted, pending := some .ret })
      generalize W2.putObj (w.heap.size + 7) (.loop { R with state := .exhausted, pending := some .ret }) = W5 at hF5 hend
      have hd6 := hF5.blk hd (by simp)
      have hF7 := put_fr W5 (w.heap.size + 6) (.deferred none)
      have q2 : (W5.putObj (w.heap.size + 6) (.deferred none)).cell? ⟨w.heap.size, 0, none⟩ = some (.slice none 0 0) := blk_cell (hF7.blk (hF5.blk b2 (by simp)) (by simp)) rfl
      have q3 : (W5.putObj (w.heap.size + 6) (.deferred none)).cell? ⟨w.heap.size + 1, 0, none⟩ = some (.bool false) := blk_cell (hF7.blk (hF5.blk b3 (by simp)) (by simp)) rfl
      refine ⟨some .ret, W5, hend, ?_⟩
      have HRD := Lib.hid hRd
      clear hend hRec HR hBody hI1 hB3 hB3' b2 b3 hl hd hRd
      simp only
      gi_wp2
      refine ⟨by simp, .inl ⟨_, _, rfl, run_takeDeferred hd6, ?_⟩⟩
      generalize W5.putObj (w.heap.size + 6) (.deferred none) = W7 at hF7 q2 q3 ⊢
      have hl0 := HL0.out
      refine ⟨_, res_any _ _ w.heap.size (w.heap.size + 1) (.slice none 0 0) (.bool false) rfl rfl q2 q3, ?_⟩
      have hF67 : Fr [] w W7 := (fr.trans2 hF5 (fun t ht => .inr (by simp at ht; omega))).trans2 hF7 (fun t ht => .inr (by simp at ht; omega))
      exact ⟨hF67, .inr ⟨by rw [← hl0]; exact HRD.out, rfl⟩⟩
end Go.Proofs.YtjfadoealhlccaaGreatDoor
