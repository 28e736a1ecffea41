/- build, combine; union, common part, difference, complement. -/
import Derived.Test.YtjfadoealhlccaaGreatDoorBld
import Derived.Shelf.Abstract
namespace Go.Proofs.YtjfadoealhlccaaGreatDoor
open Go.RowKit Go.Shelf
set_option linter.unusedVariables false
set_option maxRecDepth 100000

/-- A set that a call has made. -/
structure NewS (w w' : World) (s : ArgS) : Prop where
  own : w'.ownsRow w.heap.size 40 2 s.v s.n (CS s.l)
  len : s.l.length = s.n
  sb : SB s.l
  n : s.n ≤ 1000000000
  fr : Fr [] w w'
theorem NewS.ok {w w' : World} {s : ArgS} (h : NewS w w' s) : s.Ok w' := by
  refine ⟨h.len, h.sb, own_rdS h.own, h.n, ?_⟩
  obtain ⟨A, c, e, h1, _⟩ := own_slice h.own
  unfold ArgS.v at e
  injection e with _ _ e
  rw [e]; exact h1
theorem NewS.of {w w' : World} {v : Value} {l : List Sp} (h : w'.ownsRow w.heap.size 40 2 v l.length (CS l)) (hs : SB l) (hn : l.length ≤ 1000000000) (hF : Fr [] w w') : ∃ s : ArgS, s.v = v ∧ s.l = l ∧ NewS w w' s := by
  obtain ⟨A, c, rfl, _, _, _⟩ := own_slice h
  exact ⟨⟨A, l.length, c, l⟩, rfl, rfl, ⟨h, rfl, hs, hn, hF⟩⟩
theorem NewS.pre {u w w' : World} {s : ArgS} (h : NewS w w' s) (hF : Fr [] u w) : NewS u w' s := ⟨own_ext h.own hF.size, h.len, h.sb, h.n, hF.trans h.fr⟩
theorem NewS.post {w w' w'' : World} {s : ArgS} (h : NewS w w' s) (hF : Fr [] w' w'') : NewS w w'' s := ⟨hF.own h.own (by simp), h.len, h.sb, h.n, h.fr.trans hF⟩

def BuildP (R : List Sp → Prop) (w : World) (e : Ending) (w' : World) : Prop := ∃ s : ArgS, e = .returned (.slice s.A s.n s.c) ∧ R s.l ∧ NewS w w' s
theorem bi_new (w : World) : BI w.heap.size [] w (w.alloc (.cells #[.slice none 0 0] 118)) := by
  refine ⟨(Fr.refl _ _).alloc _, rfl, ⟨_, new_cell _ _ _ 0 _ rfl, World.ownsRow_nil _ _ _ _⟩, World.frozen?_alloc_new _ _ _ _, by simp, SB.nil⟩
theorem bi_done {w w' : World} {s : List Sp} (h : BI w.heap.size s w w') (hn : s.length ≤ 1000000000) : ∃ (a : ArgS), w'.cell? ⟨w.heap.size, 0, none⟩ = some (.slice a.A a.n a.c) ∧ a.l = s ∧ NewS w w' a := by
  obtain ⟨v, hc, ho⟩ := h.box
  obtain ⟨A, c, rfl, _, _, _⟩ := own_slice ho
  exact ⟨⟨A, s.length, c, s⟩, hc, rfl, ⟨own_ext ho (by omega), rfl, h.sb, hn, h.fr⟩⟩
set_option maxHeartbeats 1000000 in
theorem build_cho (tk : Bool → Bool → Bool) (f : FuncId) (hT : ∀ p q W, Calls Tryz.prog f #[.bool p, .bool q] W fun e w' => e = .returned (.bool (tk p q)) ∧ Fr [] W w')
    (hen : ∀ args W, (callFunc f args).run Tryz.prog W = .ok (.enter f args) W) (a b : ArgS) (ba bb bt : Nat) (w : World) (oa : a.Ok w) (ob : b.Ok w) (ra : RSf 0 a.l) (rb : RSf 0 b.l)
    (ha : w.cell? ⟨ba, 0, none⟩ = some (.slice a.A a.n a.c)) (hb : w.cell? ⟨bb, 0, none⟩ = some (.slice b.A b.n b.c)) (ht : w.cell? ⟨bt, 0, none⟩ = some (.func (.func f) #[] #[])) (hl : a.n ≤ 100000 ∧ b.n ≤ 100000) :
    Calls Tryz.prog 46 #[.func (.func 64) #[] #[.pointer (some ⟨ba, 0, none⟩), .pointer (some ⟨bb, 0, none⟩), .pointer (some ⟨bt, 0, none⟩)]] w
      (BuildP (fun r => Comb tk a.l b.l r ∧ r.length ≤ 2 * a.n + 2 * b.n + 1) w) := by
  have hC := chosenB tk f hT hen w.heap.size ba bb bt a.n a.c b.n b.c a.A b.A a.l b.l w (w.alloc (.cells #[.slice none 0 0] 118)) oa.len ob.len oa.cap ob.cap ra rb oa.sb ob.sb ha hb ht oa.rd ob.rd (bi_new w) oa.n ob.n
  have HLA := Lib.hid oa.len
  have HLB := Lib.hid ob.len
  unfold addV at hC
  go_enter Tryz.func46, Tryz.ntmps46
  go_wp2_with fail
  refine hC.mono ?_
  rintro e w2 ⟨⟨v, rfl⟩, pre, hC2, hlen, hI⟩
  have hbl := buildS_len pre
  have hla := HLA.out
  have hlb := HLB.out
  obtain ⟨s, hc, hs, hN⟩ := bi_done hI (by omega)
  have hR : Comb tk a.l b.l s.l ∧ s.l.length ≤ 2 * a.n + 2 * b.n + 1 := by rw [hs]; exact ⟨cho_end hC2, by omega⟩
  have HR := Lib.hid hR
  clear hC hR hC2 hlen hbl hla hlb hs hI
  go_wp2_with fail
  go_ret
  exact ⟨s, rfl, HR.out, hN⟩
set_option maxHeartbeats 1000000 in
theorem build_val (b : Nat) (a : ArgS) (w : World) (oa : a.Ok w) (hb : w.cell? ⟨b, 0, none⟩ = some (.slice a.A a.n a.c)) :
    Calls Tryz.prog 46 #[.func (.func 63) #[] #[.pointer (some ⟨b, 0, none⟩)]] w
      (BuildP (fun r => r = buildS a.l) w) := by
  have hC := valuesB w.heap.size b a.n a.c a.A a.l w (w.alloc (.cells #[.slice none 0 0] 118)) oa.len oa.sb hb oa.rd (bi_new w) (Nat.le_trans oa.n (by decide))
  have HLA := Lib.hid oa.len
  have HN := Lib.hid oa.n
  unfold addV at hC
  go_enter Tryz.func46, Tryz.ntmps46
  go_wp2_with fail
  refine hC.mono ?_
  rintro e w2 ⟨⟨v, rfl⟩, hI⟩
  have hbl := buildS_len a.l
  have hla := HLA.out
  have hn := HN.out
  obtain ⟨s, hc, hs, hN⟩ := bi_done hI (by show (buildS a.l).length ≤ _; omega)
  have hR : s.l = buildS a.l := hs
  have HR := Lib.hid hR
  clear hC hR hbl hla hs hI hn
  go_wp2_with fail
  go_ret
  exact ⟨s, rfl, HR.out, hN⟩

def CombP (tk : Bool → Bool → Bool) (a b : List Sp) (w : World) (e : Ending) (w' : World) : Prop :=
  ∃ s : ArgS, e = .returned (.tuple #[.slice s.A s.n s.c, .int .i64 0]) ∧ Comb tk a b s.l ∧ s.n ≤ 2 * a.length + 2 * b.length + 1 ∧ NewS w w' s
theorem errS_zero {ls : List ArgS} (h : errS ls = 0) : ∀ s ∈ ls, s.n ≤ 4096 ∧ RSf 0 s.l := by
  intro s hs
  unfold errS at h
  split at h
  · cases h
  · rename_i h1
    split at h
    · cases h
    · rename_i h2
      constructor
      · rcases Nat.lt_or_ge 4096 s.n with h3 | h3
        · exact absurd (List.any_eq_true.2 ⟨s, hs, by simpa using h3⟩) h1
        · exact h3
      · by_cases h3 : RSf 0 s.l
        · exact h3
        · exact absurd (List.any_eq_true.2 ⟨s, hs, by simpa using h3⟩) h2
theorem errS_ok {ls : List ArgS} (h : ∀ s ∈ ls, s.n ≤ 4096 ∧ RSf 0 s.l) : errS ls = 0 := by
  unfold errS
  have h1 : manyS ls = false := by
    unfold manyS
    rw [List.any_eq_false]
    intro s hs
    have := (h s hs).1
    simp; omega
  have h2 : wrongS ls = false := by
    unfold wrongS
    rw [List.any_eq_false]
    intro s hs
    simp [(h s hs).2]
  rw [h1, h2]; rfl

set_option maxHeartbeats 2000000 in
theorem combine_no (a b : ArgS) (fv : Value) (E : Int) (hE : E = errS [a, b]) (h0 : E ≠ 0) (w : World) (oa : a.Ok w) (ob : b.Ok w) :
    Calls Tryz.prog 27 #[.slice a.A a.n a.c, .slice b.A b.n b.c, fv] w fun e w' => e = .returned (.tuple #[.slice none 0 0, .int .i64 E]) ∧ Fr [] w w' := by
  have hF : Fr [] w (w.alloc (.cells #[.slice a.A a.n a.c, .slice b.A b.n b.c] 26)) := (Fr.refl _ _).alloc _
  have hK := check_any [a, b] (some ⟨w.heap.size, 0, none⟩) 2 2 (w.alloc (.cells #[.slice a.A a.n a.c, .slice b.A b.n b.c] 26)) rfl (rd_new2 w _ _) (by
    intro s hs
    simp only [List.mem_cons, List.not_mem_nil, or_false] at hs
    rcases hs with rfl | rfl
    · exact oa.fr hF
    · exact ob.fr hF) (by decide)
  rw [← hE] at hK
  have b1 : (E == 0) = false := by rw [beq_eq_false_iff_ne]; exact h0
  clear hE h0
  go_enter Tryz.func27, Tryz.ntmps27
  go_wp2_with fail
  refine hK.mono ?_
  rintro e w2 ⟨rfl, hG⟩
  go_wp2_with fail
  go_ret2
  exact ⟨rfl, hF.trans hG⟩
theorem chosen_mk (A A2 : Option Addr) (n c m d : Nat) (f : FuncId) (W : World) : Calls Tryz.prog 48 #[.slice A n c, .slice A2 m d, .func (.func f) #[] #[]] W fun e w' =>
    e = .returned (.func (.func 64) #[] #[.pointer (some ⟨W.heap.size, 0, none⟩), .pointer (some ⟨W.heap.size + 1, 0, none⟩), .pointer (some ⟨W.heap.size + 1 + 1, 0, none⟩)]) ∧
      w' = ((W.alloc (.cells #[.slice A n c] 26)).alloc (.cells #[.slice A2 m d] 26)).alloc (.cells #[.func (.func f) #[] #[]] 71) := by
  go_enter Tryz.func48, Tryz.ntmps48
  go_wp2
  go_ret
  exact ⟨rfl, rfl⟩
set_option maxHeartbeats 2000000 in
theorem combine_yes (tk : Bool → Bool → Bool) (f : FuncId) (hT : ∀ p q W, Calls Tryz.prog f #[.bool p, .bool q] W fun e w' => e = .returned (.bool (tk p q)) ∧ Fr [] W w')
    (hen : ∀ args W, (callFunc f args).run Tryz.prog W = .ok (.enter f args) W) (a b : ArgS) (h0 : errS [a, b] = 0) (w : World) (oa : a.Ok w) (ob : b.Ok w) :
    Calls Tryz.prog 27 #[.slice a.A a.n a.c, .slice b.A b.n b.c, .func (.func f) #[] #[]] w (CombP tk a.l b.l w) := by
  have hF : Fr [] w (w.alloc (.cells #[.slice a.A a.n a.c, .slice b.A b.n b.c] 26)) := (Fr.refl _ _).alloc _
  have hK := check_any [a, b] (some ⟨w.heap.size, 0, none⟩) 2 2 (w.alloc (.cells #[.slice a.A a.n a.c, .slice b.A b.n b.c] 26)) rfl (rd_new2 w _ _) (by
    intro s hs
    simp only [List.mem_cons, List.not_mem_nil, or_false] at hs
    rcases hs with rfl | rfl
    · exact oa.fr hF
    · exact ob.fr hF) (by decide)
  rw [h0] at hK
  have za := errS_zero h0 a (by simp)
  have zb := errS_zero h0 b (by simp)
  have HZ := Lib.hid (And.intro za zb)
  have hla := oa.len
  have hlb := ob.len
  have HL := Lib.hid (And.intro hla hlb)
  have HT := Lib.hid hT
  clear h0 za zb hT hla hlb
  go_enter Tryz.func27, Tryz.ntmps27
  go_wp2_with fail
  refine hK.mono ?_
  rintro e w2 ⟨rfl, hG⟩
  have hF2 := hF.trans hG
  clear hK hF hG
  go_wp2_with fail
  refine (chosen_mk _ _ _ _ _ _ f w2).mono ?_
  rintro e w3 ⟨rfl, hw⟩
  have hs1 : (w2.alloc (.cells #[.slice a.A a.n a.c] 26)).heap.size = w2.heap.size + 1 := by simp
  have hs2 : ((w2.alloc (.cells #[.slice a.A a.n a.c] 26)).alloc (.cells #[.slice b.A b.n b.c] 26)).heap.size = w2.heap.size + 1 + 1 := by simp
  have hF3 : Fr [] w2 w3 := by rw [hw]; exact (((Fr.refl _ _).alloc _).alloc _).alloc _
  have c1 : w3.cell? ⟨w2.heap.size, 0, none⟩ = some (.slice a.A a.n a.c) := by rw [hw]; exact old_cell (old_cell (new_cell _ _ _ 0 _ rfl) _) _
  have c2 : w3.cell? ⟨w2.heap.size + 1, 0, none⟩ = some (.slice b.A b.n b.c) := by
    rw [hw, ← hs1]; exact old_cell (new_cell _ _ _ 0 _ rfl) _
  have c3 : w3.cell? ⟨w2.heap.size + 1 + 1, 0, none⟩ = some (.func (.func f) #[] #[]) := by
    rw [hw, ← hs2]; exact new_cell _ _ _ 0 _ rfl
  have hB := build_cho tk f HT.out hen a b w2.heap.size (w2.heap.size + 1) (w2.heap.size + 1 + 1) w3 (oa.fr (hF2.trans hF3)) (ob.fr (hF2.trans hF3)) HZ.out.1.2 HZ.out.2.2 c1 c2 c3 ⟨Nat.le_trans HZ.out.1.1 (by decide), Nat.le_trans HZ.out.2.1 (by decide)⟩
  have hF4 := hF2.trans hF3
  clear hs1 hs2 hw c1 c2 c3 hF3 hF2
  go_wp2_with fail
  refine hB.mono ?_
  rintro e w4 ⟨s, rfl, ⟨hC, hlen⟩, hN⟩
  have hP : s.n ≤ 2 * a.l.length + 2 * b.l.length + 1 := by rw [HL.out.1, HL.out.2, ← hN.len]; exact hlen
  have HP := Lib.hid (And.intro hC hP)
  clear hP hlen hC hB
  go_wp2_with fail
  go_ret2
  exact ⟨s, rfl, HP.out.1, HP.out.2, hN.pre hF4⟩

theorem union1 (p q : Bool) (W : World) : Calls Tryz.prog 28 #[.bool p, .bool q] W fun e w' => e = .returned (.bool (p || q)) ∧ Fr [] W w' := by
  cases p <;> cases q <;> (go_enter Tryz.func28, Tryz.ntmps28; go_wp2; go_ret; exact ⟨rfl, Fr.refl _ _⟩)
theorem common1 (p q : Bool) (W : World) : Calls Tryz.prog 29 #[.bool p, .bool q] W fun e w' => e = .returned (.bool (p && q)) ∧ Fr [] W w' := by
  cases p <;> cases q <;> (go_enter Tryz.func29, Tryz.ntmps29; go_wp2; go_ret; exact ⟨rfl, Fr.refl _ _⟩)
theorem without1 (p q : Bool) (W : World) : Calls Tryz.prog 30 #[.bool p, .bool q] W fun e w' => e = .returned (.bool (p && !q)) ∧ Fr [] W w' := by
  cases p <;> cases q <;> (go_enter Tryz.func30, Tryz.ntmps30; go_wp2; go_ret; exact ⟨rfl, Fr.refl _ _⟩)

theorem union_no (a b : ArgS) (E : Int) (hE : E = errS [a, b]) (h0 : E ≠ 0) (w : World) (oa : a.Ok w) (ob : b.Ok w) :
    Calls Tryz.prog 10 #[.slice a.A a.n a.c, .slice b.A b.n b.c] w fun e w' => e = .returned (.tuple #[.slice none 0 0, .int .i64 E]) ∧ Fr [] w w' := by
  have h := combine_no a b (.func (.func 28) #[] #[]) E hE h0 w oa ob
  clear hE h0
  go_enter Tryz.func10, Tryz.ntmps10
  go_wp2_with fail
  refine h.mono ?_
  rintro e w2 ⟨rfl, hF⟩
  go_wp2_with fail
  go_ret2
  exact ⟨rfl, hF⟩
theorem union_yes (a b : ArgS) (h0 : errS [a, b] = 0) (w : World) (oa : a.Ok w) (ob : b.Ok w) :
    Calls Tryz.prog 10 #[.slice a.A a.n a.c, .slice b.A b.n b.c] w (CombP (fun p q => p || q) a.l b.l w) := by
  have h := combine_yes (fun p q => p || q) 28 (fun p q W => union1 p q W) (enters_of Tryz.func28 (by kernel_rfl) rfl) a b h0 w oa ob
  clear h0
  go_enter Tryz.func10, Tryz.ntmps10
  go_wp2_with fail
  refine h.mono ?_
  rintro e w2 ⟨s, rfl, h1, h2, h3⟩
  have H1 := Lib.hid (And.intro h1 h2)
  clear h1 h2 h
  go_wp2_with fail
  go_ret2
  exact ⟨s, rfl, H1.out.1, H1.out.2, h3⟩

theorem common_no (a b : ArgS) (E : Int) (hE : E = errS [a, b]) (h0 : E ≠ 0) (w : World) (oa : a.Ok w) (ob : b.Ok w) :
    Calls Tryz.prog 11 #[.slice a.A a.n a.c, .slice b.A b.n b.c] w fun e w' => e = .returned (.tuple #[.slice none 0 0, .int .i64 E]) ∧ Fr [] w w' := by
  have h := combine_no a b (.func (.func 29) #[] #[]) E hE h0 w oa ob
  clear hE h0
  go_enter Tryz.func11, Tryz.ntmps11
  go_wp2_with fail
  refine h.mono ?_
  rintro e w2 ⟨rfl, hF⟩
  go_wp2_with fail
  go_ret2
  exact ⟨rfl, hF⟩
theorem common_yes (a b : ArgS) (h0 : errS [a, b] = 0) (w : World) (oa : a.Ok w) (ob : b.Ok w) :
    Calls Tryz.prog 11 #[.slice a.A a.n a.c, .slice b.A b.n b.c] w (CombP (fun p q => p && q) a.l b.l w) := by
  have h := combine_yes (fun p q => p && q) 29 (fun p q W => common1 p q W) (enters_of Tryz.func29 (by kernel_rfl) rfl) a b h0 w oa ob
  clear h0
  go_enter Tryz.func11, Tryz.ntmps11
  go_wp2_with fail
  refine h.mono ?_
  rintro e w2 ⟨s, rfl, h1, h2, h3⟩
  have H1 := Lib.hid (And.intro h1 h2)
  clear h1 h2 h
  go_wp2_with fail
  go_ret2
  exact ⟨s, rfl, H1.out.1, H1.out.2, h3⟩

theorem without_no (a b : ArgS) (E : Int) (hE : E = errS [a, b]) (h0 : E ≠ 0) (w : World) (oa : a.Ok w) (ob : b.Ok w) :
    Calls Tryz.prog 12 #[.slice a.A a.n a.c, .slice b.A b.n b.c] w fun e w' => e = .returned (.tuple #[.slice none 0 0, .int .i64 E]) ∧ Fr [] w w' := by
  have h := combine_no a b (.func (.func 30) #[] #[]) E hE h0 w oa ob
  clear hE h0
  go_enter Tryz.func12, Tryz.ntmps12
  go_wp2_with fail
  refine h.mono ?_
  rintro e w2 ⟨rfl, hF⟩
  go_wp2_with fail
  go_ret2
  exact ⟨rfl, hF⟩
theorem without_yes (a b : ArgS) (h0 : errS [a, b] = 0) (w : World) (oa : a.Ok w) (ob : b.Ok w) :
    Calls Tryz.prog 12 #[.slice a.A a.n a.c, .slice b.A b.n b.c] w (CombP (fun p q => p && !q) a.l b.l w) := by
  have h := combine_yes (fun p q => p && !q) 30 (fun p q W => without1 p q W) (enters_of Tryz.func30 (by kernel_rfl) rfl) a b h0 w oa ob
  clear h0
  go_enter Tryz.func12, Tryz.ntmps12
  go_wp2_with fail
  refine h.mono ?_
  rintro e w2 ⟨s, rfl, h1, h2, h3⟩
  have H1 := Lib.hid (And.intro h1 h2)
  clear h1 h2 h
  go_wp2_with fail
  go_ret2
  exact ⟨s, rfl, H1.out.1, H1.out.2, h3⟩

/-- The set of all numbers, as a literal. -/
def allS (g : Nat) : ArgS := ⟨some ⟨g, 0, none⟩, 1, 1, [(0, 4294967295)]⟩
theorem allS_ok (w : World) : (allS w.heap.size).Ok (w.alloc (.cells #[.int .u32 0, .int .u32 4294967295] 40)) :=
  ⟨rfl, SB.one (by decide) (by decide), rd_new2 w _ _, by show 1 ≤ 1000000000; decide, Nat.le_refl _⟩
theorem others_yes (s : ArgS) (h0 : errS [s] = 0) (w : World) (os : s.Ok w) :
    Calls Tryz.prog 13 #[.slice s.A s.n s.c] w (CombP (fun p q => p && !q) [(0, 4294967295)] s.l w) := by
  have hF : Fr [] w (w.alloc (.cells #[.int .u32 0, .int .u32 4294967295] 40)) := (Fr.refl _ _).alloc _
  have he : errS [allS w.heap.size, s] = 0 := errS_ok fun x hx => by
    simp only [List.mem_cons, List.not_mem_nil, or_false] at hx
    rcases hx with rfl | rfl
    · exact ⟨by show 1 ≤ 4096; decide, by show RSf 0 [(0, 4294967295)]; decide⟩
    · exact errS_zero h0 _ (by simp)
  have h := without_yes (allS w.heap.size) s he _ (allS_ok w) (os.fr hF)
  unfold allS at h
  simp only at h
  clear h0 he
  go_enter Tryz.func13, Tryz.ntmps13
  go_wp2_with fail
  refine h.mono ?_
  rintro e w2 ⟨s', rfl, h1, h2, h3⟩
  have H1 := Lib.hid (And.intro h1 h2)
  clear h1 h2 h
  go_wp2_with fail
  go_ret2
  exact ⟨s', rfl, H1.out.1, H1.out.2, h3.pre hF⟩
theorem others_no (s : ArgS) (E : Int) (hE : E = errS [s]) (h0 : E ≠ 0) (w : World) (os : s.Ok w) :
    Calls Tryz.prog 13 #[.slice s.A s.n s.c] w fun e w' => e = .returned (.tuple #[.slice none 0 0, .int .i64 E]) ∧ Fr [] w w' := by
  have hF : Fr [] w (w.alloc (.cells #[.int .u32 0, .int .u32 4294967295] 40)) := (Fr.refl _ _).alloc _
  have he : E = errS [allS w.heap.size, s] := by
    rw [hE]
    unfold errS manyS wrongS
    have d1 : decide (RSf 0 [(0, 4294967295)]) = true := by decide
    simp [allS, d1]
  have h := without_no (allS w.heap.size) s E he h0 _ (allS_ok w) (os.fr hF)
  unfold allS at h
  simp only at h
  clear h0 he hE
  go_enter Tryz.func13, Tryz.ntmps13
  go_wp2_with fail
  refine h.mono ?_
  rintro e w2 ⟨rfl, h3⟩
  go_wp2_with fail
  go_ret2
  exact ⟨rfl, hF.trans h3⟩
theorem within_yes (a b : ArgS) (h0 : errS [a, b] = 0) (w : World) (oa : a.Ok w) (ob : b.Ok w) :
    Calls Tryz.prog 14 #[.slice a.A a.n a.c, .slice b.A b.n b.c] w fun e w' => (∃ d : List Sp, Comb (fun p q => p && !q) a.l b.l d ∧ e = .returned (.tuple #[.bool (decide (d.length = 0)), .int .i64 0])) ∧ Fr [] w w' := by
  have h := without_yes a b h0 w oa ob
  clear h0
  go_enter Tryz.func14, Tryz.ntmps14
  go_wp2_with fail
  refine h.mono ?_
  rintro e w2 ⟨s, rfl, h1, h2, h3⟩
  have H1 := Lib.hid h1
  have hl := h3.len
  have hf := h3.fr
  obtain ⟨sA, sn, sc, sl⟩ := s
  simp only at hl H1 ⊢
  subst hl
  clear h1 h2 h h3
  cases sl with
  | nil =>
    simp only [List.length_nil]
    go_wp2_with fail
    go_ret2
    exact ⟨⟨[], H1.out, rfl⟩, hf⟩
  | cons x l =>
    have b1 : (((x :: l).length : Int) == 0) = false := by rw [beq_eq_false_iff_ne]; simp; omega
    have b2 : ((x :: l).length == 0) = false := rfl
    generalize hN : (x :: l).length = N at b1 b2 ⊢
    have HN := Lib.hid hN
    clear hN
    go_wp2_with fail
    go_ret2
    exact ⟨⟨x :: l, H1.out, by rw [HN.out]; have h := b2; simp only [beq_eq_false_iff_ne] at h; rw [decide_eq_false h]; rfl⟩, hf⟩
theorem within_no (a b : ArgS) (E : Int) (hE : E = errS [a, b]) (h0 : E ≠ 0) (w : World) (oa : a.Ok w) (ob : b.Ok w) :
    Calls Tryz.prog 14 #[.slice a.A a.n a.c, .slice b.A b.n b.c] w fun e w' => e = .returned (.tuple #[.bool false, .int .i64 E]) ∧ Fr [] w w' := by
  have h := without_no a b E hE h0 w oa ob
  have b1 : (E == 0) = false := by rw [beq_eq_false_iff_ne]; exact h0
  clear hE h0
  go_enter Tryz.func14, Tryz.ntmps14
  go_wp2_with fail
  refine h.mono ?_
  rintro e w2 ⟨rfl, hF⟩
  go_wp2_with fail
  go_ret2
  exact ⟨rfl, hF⟩
end Go.Proofs.YtjfadoealhlccaaGreatDoor
