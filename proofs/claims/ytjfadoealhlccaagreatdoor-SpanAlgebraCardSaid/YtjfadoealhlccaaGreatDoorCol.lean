/- slices.Collect over the cover's range function; Cover. -/
import Derived.Test.YtjfadoealhlccaaGreatDoorCov
import Derived.Test.YtjfadoealhlccaaGreatDoorApp
import Derived.Maps.AppendAt
import Derived.Test.YtjfadoealhlccaaGreatDoorOrd
namespace Go.Proofs.YtjfadoealhlccaaGreatDoor
open Go.RowKit Go.Shelf
set_option linter.unusedVariables false
attribute [local go_sem] Oper.semAt_some

/-- Prefixes as the cells that hold them. -/
def CP (l : List (Nat × Nat)) : List Value := l.flatMap fun p => [.int .u32 p.1, .int .u8 p.2]
theorem CP_snoc (l : List (Nat × Nat)) (x : Nat × Nat) : CP (l ++ [x]) = CP l ++ [.int .u32 x.1, .int .u8 x.2] := by simp [CP]
theorem CP_length (l : List (Nat × Nat)) : (CP l).length = 2 * l.length := by
  induction l with
  | nil => rfl
  | cons x l ih => simp only [CP, List.flatMap_cons, List.length_append, List.length_cons, List.length_nil] at ih ⊢; omega
theorem prefixInfo : (Tryz.prog.info? 55).map (fun i => (i.zero, i.size, i.bytes)) = some (some (.agg #[.int .u32 0, .int .u8 0]), 2, 8) := by kernel_rfl

/-- What is known between two rounds. -/
structure IC (w00 : World) (B Bf Bt t : Nat) (pre : List (Nat × Nat)) (W : World) : Prop where
  box : ∃ v, W.cell? ⟨B, 0, none⟩ = some v ∧ W.ownsRow (B + 3) 55 2 v pre.length (CP pre)
  fz : W.frozen? ⟨B, 0, none⟩ = false
  fr : Fr [] w00 W
  ct : W.cell? ⟨Bt, 0, none⟩ = some (.int .u32 t)
  sz : B + 3 ≤ W.heap.size
theorem IC.fr' {w00 : World} {B Bf Bt t : Nat} {pre : List (Nat × Nat)} {W W' : World} {S : List Nat} (h : IC w00 B Bf Bt t pre W) (hF : Fr S W W') (hB : B ∉ S) (hBt : Bt ∉ S) (h0 : ∀ s ∈ S, w00.heap.size ≤ s) (h3 : ∀ s ∈ S, s < B + 3) (hfB : Bf < B) : IC w00 B Bf Bt t pre W' := by
  obtain ⟨⟨v, hc, ho⟩, h2, h4, h5, h7⟩ := h
  refine ⟨⟨v, hF.cell hc hB, hF.own ho fun k hk hs => ?_⟩, fr_fz hF (by omega) hB h2, h4.trans2 hF fun s hs => .inr (h0 s hs), hF.cell h5 hBt, Nat.le_trans h7 hF.size⟩
  · have := h3 k hs
    rcases ho.2 with ⟨hv, _⟩ | ⟨g, cap, cur, hv, hb, _⟩
    · rw [hv] at hk; cases hk
    · rw [hv] at hk
      simp only [Value.ownBlock, Option.some.injEq] at hk
      omega

set_option maxRecDepth 100000 in
set_option maxHeartbeats 4000000 in
theorem appendSeq_in (f t Bf Bt : Nat) (L : List (Nat × Nat)) (hC : Cov t f L) (hft : f ≤ t) (ht : t < 4294967296) (hlen : L.length ≤ 10000000000) (w00 w : World) (hV0 : VV w00) (hF : Fr [] w00 w) (hf0 : w00.heap.size ≤ Bf) (hf1 : Bf < w.heap.size) (ht1 : Bt < w.heap.size) (hne : Bt ≠ Bf)
    (hcf : w.cell? ⟨Bf, 0, none⟩ = some (.int .u32 f)) (hfz : w.frozen? ⟨Bf, 0, none⟩ = false) (hct : w.cell? ⟨Bt, 0, none⟩ = some (.int .u32 t)) :
    CallsIn Fence.wide 5 Tryz.prog 73 #[.slice none 0 0, .func (.func 74) #[] #[.pointer (some ⟨Bf, 0, none⟩), .pointer (some ⟨Bt, 0, none⟩)]] w fun e W' => ∃ v, e = .returned v ∧ W'.ownsRow w.heap.size 55 2 v L.length (CP L) ∧ Fr [] w00 W' := by
  refine callsIn_of_wp_marks Tryz.func73 rfl trivial ?_ rfl
  simp only [Tryz.ntmps73, List.size_toArray, List.length_cons, List.length_nil, Nat.reduceAdd, Nat.reduceSub, Array.replicate_succ, Array.replicate_zero, List.push_toArray, List.append_toArray, List.nil_append, List.cons_append]
  gi_wp2
  have hb0 : IC w00 w.heap.size Bf Bt t [] ((w.alloc (.cells #[.slice none 0 0] 50)).alloc (.deferred (some []))) ∨ True := .inr trivial
  have hwe : (w.alloc (.cells #[.slice none 0 0] 50)).heap.size = w.heap.size + 1 := by simp
  have hbx := new_cell w #[.slice none 0 0] 50 0 _ rfl
  have hbf : (w.alloc (.cells #[.slice none 0 0] 50)).frozen? ⟨w.heap.size, 0, none⟩ = false := World.frozen?_alloc_new _ _ _ _
  have hFE : Fr [] w (w.alloc (.cells #[.slice none 0 0] 50)) := (Fr.refl _ _).alloc _
  generalize w.alloc (.cells #[.slice none 0 0] 50) = wE at hwe hbx hbf hFE ⊢
  clear hb0
  refine wpIn_rangeFunc ?_
  intro fn hfn
  refine ⟨_, _, _, { target := .fn (.func 74) #[.pointer (some ⟨Bf, 0, none⟩), .pointer (some ⟨Bt, 0, none⟩)], args := #[.func (.yield (wE.heap.size + 1)) #[] #[]] }, ?wa, 74, #[.func (.yield (wE.heap.size + 1)) #[] #[], .pointer (some ⟨Bf, 0, none⟩), .pointer (some ⟨Bt, 0, none⟩)], ?wb, run_enterLoop_outer _ _ _ _ _, ?ha, ?hb, ?hc, fun _ => by decide, ?_⟩
  case ha =>
    have ht : ∀ W, (resolve (Act.eval { tmps := #[.slice none 0 0, .func (.func 74) #[] #[.pointer (some ⟨Bf, 0, none⟩), .pointer (some ⟨Bt, 0, none⟩)], .pointer (some ⟨w.heap.size, 0, none⟩), undef, .slice none 0 0, undef, .func (.func 74) #[] #[.pointer (some ⟨Bf, 0, none⟩), .pointer (some ⟨Bt, 0, none⟩)], undef, undef, undef, undef, undef, undef], defers := [] }) (rangeCall (.tmp 6) (wE.heap.size + 1)) 0).run Tryz.prog W = .ok { target := .fn (.func 74) #[.pointer (some ⟨Bf, 0, none⟩), .pointer (some ⟨Bt, 0, none⟩)], args := #[.func (.yield (wE.heap.size + 1)) #[] #[]] } W := fun W => by
      simp only [resolve]
      simp [go_sem]
    exact ht _
  case hb => intro f' hf'; trivial
  case hc =>
    have ht : ∀ W, (invoke (.fn (.func 74) #[.pointer (some ⟨Bf, 0, none⟩), .pointer (some ⟨Bt, 0, none⟩)]) #[.func (.yield (wE.heap.size + 1)) #[] #[]]).run Tryz.prog W = .ok (.enter 74 #[.func (.yield (wE.heap.size + 1)) #[] #[], .pointer (some ⟨Bf, 0, none⟩), .pointer (some ⟨Bt, 0, none⟩)]) W := fun W => by
      simp [invoke, go_sem]
    exact ht _
  · generalize hRec : (Loop.mk _ _ _ _ _ _ _ _) = R
    have h1 : (wE.alloc (.deferred (some []))).heap.size = wE.heap.size + 1 := by simp
    have hd : ((wE.alloc (.deferred (some []))).alloc (.loop R)).heap[wE.heap.size]? = some (.deferred (some [])) := ((Fr.refl [] _).alloc _).blk (last_block _ _) (by simp)
    have hl : ((wE.alloc (.deferred (some []))).alloc (.loop R)).heap[wE.heap.size + 1]? = some (.loop R) := by rw [← h1]; exact last_block _ _
    have hF2 : Fr [] wE ((wE.alloc (.deferred (some []))).alloc (.loop R)) := ((Fr.refl _ _).alloc _).alloc _
    have hs2 : ((wE.alloc (.deferred (some []))).alloc (.loop R)).heap.size = wE.heap.size + 1 + 1 := by simp
    generalize (wE.alloc (.deferred (some []))).alloc (.loop R) = W1 at hd hl hF2 hs2 ⊢
    have hWF : Fr [] w W1 := hFE.trans hF2
    have hI0 : IC w00 w.heap.size Bf Bt t [] W1 := ⟨⟨_, hF2.cell hbx (by simp), World.ownsRow_nil _ _ _ _⟩, fr_fz hF2 (by omega) (by simp) hbf, hF.trans hWF, hWF.cell hct (by simp), by omega⟩
    refine (cover1_in 4 (wE.heap.size + 1) Bf Bt f t L hC hft ht (by decide) (fun pre W => IC w00 w.heap.size Bf Bt t pre W ∧ W.heap[wE.heap.size + 1]? = some (.loop R) ∧ W.heap[wE.heap.size]? = some (.deferred (some []))) ?hJ ?hJV ?hY W1 (hWF.cell hcf (by simp)) (fr_fz hWF hf1 (by simp) hfz) ⟨hI0, hl, hd⟩).mono ?_
    case hJ =>
      rintro pre A B ⟨hI, hl, hd⟩ hG
      exact ⟨hI.fr' hG (by simp; omega) (by simp; exact hne) (by simp; omega) (by simp; omega) hf1, hG.blk hl (by simp; omega), hG.blk hd (by simp; omega)⟩
    case hJV =>
      rintro pre A ⟨hI, _, _⟩
      exact ⟨hV0.fr hI.fr, hI.ct⟩
    case hY =>
      rintro pre x A0 A ⟨hI0, hl0, hd0⟩ hpl0 hG
      have hI := hI0.fr' hG (by simp; omega) (by simp; exact hne) (by simp; omega) (by simp; omega) hf1
      have hl := hG.blk hl0 (by simp; omega)
      have hd := hG.blk hd0 (by simp; omega)
      have hsz0 := hI0.sz
      have hszA := hI.sz
      have hy := run_yield (P := Tryz.prog) (args := #[encP x]) hl (by rw [← hRec]; rfl)
      refine ⟨_, _, _, _, hy, roundIn_of_wpIn trivial ?_⟩
      have hst : R.state = .ready := by rw [← hRec]
      have hA1 : Fr [] A (A.alloc (.cells #[.int .u32 x.1, .int .u8 x.2] 55)) := (Fr.refl _ _).alloc _
      have hx0 := new_cell A #[.int .u32 x.1, .int .u8 x.2] 55 0 _ rfl
      have hx1 := new_cell A #[.int .u32 x.1, .int .u8 x.2] 55 1 _ rfl
      have hl1 := hA1.blk hl (by simp)
      have hbeg := run_beginRound (P := Tryz.prog) hl1 hst
      have hA2 : Fr [wE.heap.size + 1] A ((A.alloc (.cells #[.int .u32 x.1, .int .u8 x.2] 55)).putObj (wE.heap.size + 1) (.loop { R with state := .busy })) := hA1.nil.grown (grownBy_putObj' _ _ _) (by intro k e; cases e; exact .inl (by simp))
      have hl2 : ((A.alloc (.cells #[.int .u32 x.1, .int .u8 x.2] 55)).putObj (wE.heap.size + 1) (.loop { R with state := .busy })).heap[wE.heap.size + 1]? = some (.loop { R with state := .busy }) := World.putObj_heap_same (by have := hA1.size; omega)
      have hF3 : Fr [wE.heap.size + 1] (A.alloc (.cells #[.int .u32 x.1, .int .u8 x.2] 55)) ((A.alloc (.cells #[.int .u32 x.1, .int .u8 x.2] 55)).putObj (wE.heap.size + 1) (.loop { R with state := .busy })) := (Fr.refl _ _).grown (grownBy_putObj' _ _ _) (by intro k e; cases e; exact .inl (by simp))
      replace hx0 := hF3.cell hx0 (by simp; omega)
      replace hx1 := hF3.cell hx1 (by simp; omega)
      have hI2 := hI.fr' hA2 (by simp; omega) (by simp; omega) (by simp; have := hF.size; omega) (by simp; omega) hf1
      have hd2 := hA2.blk hd (by simp)
      obtain ⟨⟨v, hv, hown⟩, hbz, hfr2, hct2, hsz2⟩ := hI2
      have hown0 := hI.box
      have hszA2 := hA2.size
      obtain ⟨vA, vc, rfl, _, _, hvb⟩ := own_slice hown
      have HR := Lib.hid hRec
      clear hRec hF3
      unfold encP
      rw [← HR.out]
      simp only [Array.zip]
      have HWE := Lib.hid hwe
      have hsA : ((A.alloc (.cells #[.int .u32 x.1, .int .u8 x.2] 55)).putObj (wE.heap.size + 1) (.loop { R with state := .busy })).heap.size = A.heap.size + 1 := by simp
      have HB := Lib.hid hbeg
      clear hwe hbeg
      gi_wp2
      refine ⟨_, HB.out, ?_⟩
      clear HB
      generalize (A.alloc (.cells #[.int .u32 x.1, .int .u8 x.2] 55)).putObj (wE.heap.size + 1) (.loop { R with state := .busy }) = A2 at hx0 hx1 hA2 hl2 hd2 hv hown hbz hfr2 hct2 hsz2 hszA2 hsA ⊢
      have HSA := Lib.hid hsA
      obtain ⟨i0, hi, hz0, hz1, hz2⟩ := info_parts prefixInfo
      have hob : w.heap.size ∉ (Value.slice vA pre.length vc).ownBlock.toList := by
        intro hm
        rcases hown.2 with ⟨hv, _⟩ | ⟨g, cap, cur, hv, hb, _⟩
        · rw [hv] at hm; simp [Value.ownBlock] at hm
        · rw [hv] at hm; simp [Value.ownBlock] at hm; omega
      have hpl : pre.length ≤ 10000000000 := by omega
      clear hsA
      gi_wp2_with (first
        | (gi_at_builtin; go_must (
           refine wpListIn_append_own _ rfl _ _ 50 rfl (w.heap.size + 3) 55 i0 _ 2 8 Tryz.underlying50 hi hz0 hz1 hz2 rfl (by decide) _ _ _ rfl (hown.alloc _) _ 1 1 [.int .u32 x.1, .int .u8 x.2] rfl rfl ?hcl (by simp [Value.oneCell']) (by simp only [maxLen]; omega) (by omega) (by simp; omega) ?_
           case hcl =>
             intro j u hu
             rw [Lib.add_plain, Nat.zero_add]
             exact new_cell _ _ _ j _ (by simpa using hu)
           intro v' w1 hown1 hgrow _
           obtain ⟨A', c', rfl, _, _, _⟩ := own_slice hown1
           have hFA := fr_grown hgrow
           have y1 := hFA.cell (old_cell hv _) hob
           have y2 := fr_fz hFA (by simp; omega) hob (fr_fz ((Fr.refl [] A2).alloc (.cells #[.int .u32 x.1, .int .u8 x.2] 55)) (by omega) (by simp) hbz))))
      have hwe := HWE.out
      obtain ⟨v0, hv0, ho0⟩ := hI0.box
      have hvv : v0 = Value.slice vA pre.length vc := by
        have h1 := hA2.cell (hG.cell hv0 (by simp; omega)) (by simp; omega)
        rw [hv] at h1
        exact (Option.some.inj h1).symm
      subst hvv
      have hO : ∀ k ∈ (Value.slice vA pre.length vc).ownBlock.toList, w.heap.size + 3 ≤ k ∧ k < A0.heap.size := fun k hk => ho0.lt k (by simpa using hk)
      have hsG := hG.size
      have hF4 : Fr ((wE.heap.size + 1) :: w.heap.size :: (Value.slice vA pre.length vc).ownBlock.toList) A (w1.setCell ⟨w.heap.size, 0, none⟩ (.slice A' (pre.length + 1) c')) :=
        ((((hA2.mono (by simp)).alloc _).trans2 hFA (fun t ht => .inl (by simp only [List.mem_cons]; exact .inr (.inr ht)))).setCell (.inl (by simp)) _)
      have hFw : Fr [w.heap.size] w1 (w1.setCell ⟨w.heap.size, 0, none⟩ (.slice A' (pre.length + 1) c')) := (Fr.refl _ _).setCell (.inl (by simp)) _
      have hcB : (w1.setCell ⟨w.heap.size, 0, none⟩ (.slice A' (pre.length + 1) c')).cell? ⟨w.heap.size, 0, none⟩ = some (.slice A' (pre.length + 1) c') := World.cell?_setCell_same _ _ _ y1
      have hfB : (w1.setCell ⟨w.heap.size, 0, none⟩ (.slice A' (pre.length + 1) c')).frozen? ⟨w.heap.size, 0, none⟩ = false := by simpa using y2
      have hoB : ∀ k, (Value.slice A' (pre.length + 1) c').ownBlock = some k → w.heap.size + 3 ≤ k := fun k hk => (hown1.lt k hk).1
      have ho3 := hFw.own hown1 (fun k hk hs => by have := hoB k hk; simp at hs; omega)
      have hl3 : (w1.setCell ⟨w.heap.size, 0, none⟩ (.slice A' (pre.length + 1) c')).heap[wE.heap.size + 1]? = some (.loop { R with state := .busy }) := by
        rw [Below.heap_setCell _ _ _ _ (by simp; omega)]
        exact hFA.blk (((Fr.refl [] A2).alloc _).blk hl2 (by simp)) (fun hm => by
          have hm2 : (Value.slice vA pre.length vc).ownBlock = some (wE.heap.size + 1) := Option.mem_toList.1 hm
          rcases hown.2 with ⟨hv', _⟩ | ⟨g, cap, cur, hv', hb', hg', _⟩
          · rw [hv'] at hm2; simp [Value.ownBlock] at hm2
          · rw [hv'] at hm2; simp [Value.ownBlock] at hm2; rw [← hm2, hg'] at hl2; cases hl2)
      have hd3 : (w1.setCell ⟨w.heap.size, 0, none⟩ (.slice A' (pre.length + 1) c')).heap[wE.heap.size]? = some (.deferred (some [])) := hF4.blk hd (fun hm => by
        simp only [List.mem_cons] at hm
        rcases hm with hm | hm | hm
        · omega
        · omega
        · have := hO _ hm; omega)
      generalize w1.setCell ⟨w.heap.size, 0, none⟩ (.slice A' (pre.length + 1) c') = w3 at hF4 hcB hfB ho3 hl3 hd3 ⊢
      have hpd : R.pending = none := by rw [← HR.out]
      have hrr : ({ ({ R with state := .busy } : Loop) with state := if (none : Option Code).isNone then .ready else .done, pending := none } : Loop) = R := by
        cases R
        simp only at hst hpd
        subst hst hpd
        rfl
      have hend := run_endRound (P := Tryz.prog) none hl3
      rw [hrr] at hend
      rw [HR.out]
      have hF5 : Fr [wE.heap.size + 1] w3 (w3.putObj (wE.heap.size + 1) (.loop R)) := (Fr.refl _ _).grown (grownBy_putObj' _ _ _) (by intro k e; cases e; exact .inl (by simp))
      have hF6 : Fr ((wE.heap.size + 1) :: w.heap.size :: (Value.slice vA pre.length vc).ownBlock.toList) A (w3.putObj (wE.heap.size + 1) (.loop R)) := hF4.trans2 hF5 (fun t ht => .inl (by simp at ht; simp [ht]))
      have hs3 := hF4.size
      refine ⟨_, _, hend, rfl, ⟨⟨⟨_, hF5.cell hcB (by simp; omega), ?_⟩, fr_fz hF5 (by omega) (by simp; omega) hfB, hI.fr.trans2 hF6 ?_, hF6.cell hI.ct ?_, ?_⟩, World.putObj_heap_same (by omega), hF5.blk hd3 (by simp)⟩, ?_⟩
      · have := hF5.own ho3 (fun k hk hs => by have := hoB k hk; simp at hs; omega)
        rw [CP_snoc, List.length_append]
        exact this
      · intro k hk
        simp only [List.mem_cons] at hk
        have := hF.size
        rcases hk with hk | hk | hk
        · right; omega
        · right; omega
        · have := hO _ hk; right; omega
      · intro hm
        simp only [List.mem_cons] at hm
        rcases hm with hm | hm | hm
        · omega
        · omega
        · have := hO _ hm; omega
      · have := hF6.size; omega
      · intro b hb
        refine hF6.block b (by rcases hb with hb | hb <;> omega) ?_
        intro hm
        simp only [List.mem_cons] at hm
        rcases hm with hm | hm | hm
        · rcases hb with hb | hb <;> omega
        · rcases hb with hb | hb <;> omega
        · have := hO _ hm; rcases hb with hb | hb <;> omega
    · rintro e W2 ⟨⟨v0, rfl⟩, hI, hl, hd⟩
      have hst : R.state = .ready := by rw [← hRec]
      have hpd : R.pending = none := by rw [← hRec]
      have hend := run_endLoop (P := Tryz.prog) hl (by rw [hst]; simp)
      rw [hpd] at hend
      obtain ⟨⟨v, hv, hown⟩, hbz, hfr, _, hsz⟩ := hI
      obtain ⟨vA, vc, rfl, _, _, _⟩ := own_slice hown
      have hoB : ∀ k, (Value.slice vA L.length vc).ownBlock = some k → w.heap.size + 3 ≤ k := fun k hk => (hown.lt k hk).1
      have hF5 : Fr [wE.heap.size + 1] W2 (W2.putObj (wE.heap.size + 1) (.loop { R with state := .exhausted, pending := none })) := (Fr.refl _ _).grown (grownBy_putObj' _ _ _) (by intro k e; cases e; exact .inl (by simp))
      have hv5 := hF5.cell hv (by simp; omega)
      have hd5 := hF5.blk hd (by simp)
      have ho5 := hF5.own hown (fun k hk hs => by have := hoB k hk; simp at hs; omega)
      have hs0 := hF.size
      have hfr5 : Fr [] w00 (W2.putObj (wE.heap.size + 1) (.loop { R with state := .exhausted, pending := none })) := hfr.trans2 hF5 (fun t ht => .inr (by simp at ht; omega))
      have hend2 : (Instr.endLoop (wE.heap.size + 1)).run Tryz.prog W2 = .ok none (W2.putObj (wE.heap.size + 1) (.loop { R with state := .exhausted, pending := none })) := by
        rw [hend]
      generalize W2.putObj (wE.heap.size + 1) (.loop { R with state := .exhausted, pending := none }) = W5 at hv5 hd5 ho5 hfr5 hend2 ⊢
      have HWE := Lib.hid hwe
      refine ⟨none, W5, hend2, ?_⟩
      clear hend hend2 hF5 hRec hd hl hI0 hwe
      simp only
      gi_wp2
      have hF6 : Fr [wE.heap.size] W5 (W5.putObj wE.heap.size (.deferred none)) := (Fr.refl _ _).grown (grownBy_putObj' _ _ _) (by intro k e; cases e; exact .inl (by simp))
      have hwe := HWE.out
      refine ⟨by simp, .inl ⟨_, _, rfl, run_takeDeferred hd5, ?_⟩⟩
      refine ⟨_, results_tmp rfl _ _ _, _, rfl, ?_, hfr5.trans2 hF6 (fun t ht => .inr (by simp at ht; omega))⟩
      exact own_ext (hF6.own ho5 (fun k hk hs => by have := hoB k hk; simp at hs; omega)) (by omega)

theorem cov_len {t f : Nat} {L : List (Nat × Nat)} (h : Cov t f L) : f ≤ t ∧ L.length ≤ t - f + 1 := by
  induction h with
  | last h e => exact ⟨by omega, by simp⟩
  | @more f n l h e r ih =>
    have := psize_pos n
    exact ⟨by omega, by simp only [List.length_cons]; omega⟩
theorem cov_ex {t : Nat} (ht : t < 4294967296) : ∀ (k f : Nat), f ≤ t → t - f < k → ∃ L, Cov t f L
  | 0, f, _, h => by omega
  | k + 1, f, hf, h => by
    have hex : ∀ m, m ≤ 32 → (∃ n, n ≤ m ∧ IsW f t n) ∨ ¬ (PR f m ∧ f + (psize m - 1) ≤ t) := by
      intro m
      induction m with
      | zero => intro _
                by_cases h0 : PR f 0 ∧ f + (psize 0 - 1) ≤ t
                · exact .inl ⟨0, Nat.le_refl _, h0.1, h0.2, .inl rfl⟩
                · exact .inr h0
      | succ m ih =>
        intro hm
        rcases ih (by omega) with ⟨n, hn, hw⟩ | hno
        · exact .inl ⟨n, by omega, hw⟩
        · by_cases h1 : PR f (m + 1) ∧ f + (psize (m + 1) - 1) ≤ t
          · exact .inl ⟨m + 1, Nat.le_refl _, h1.1, h1.2, .inr (by simpa using hno)⟩
          · exact .inr h1
    rcases hex 32 (by decide) with ⟨n, hn, hw⟩ | hno
    · have hp := psize_pos n
      by_cases he : f + (psize n - 1) = t
      · exact ⟨_, .last hw he⟩
      · have hlt : f + (psize n - 1) < t := by have := hw.2.1; omega
        obtain ⟨L, hL⟩ := cov_ex ht k (f + psize n) (by omega) (by omega)
        exact ⟨_, .more hw hlt hL⟩
    · refine absurd ⟨⟨by decide, ?_⟩, ?_⟩ hno
      · rw [psize_big (by decide)]; exact Nat.mod_one _
      · rw [psize_big (by decide)]; omega

theorem collect_any (f t Bf Bt : Nat) (L : List (Nat × Nat)) (hC : Cov t f L) (ht : t < 4294967296) (w00 w : World) (hV0 : VV w00) (hF : Fr [] w00 w) (hf0 : w00.heap.size ≤ Bf) (hf1 : Bf < w.heap.size) (ht1 : Bt < w.heap.size) (hne : Bt ≠ Bf)
    (hcf : w.cell? ⟨Bf, 0, none⟩ = some (.int .u32 f)) (hfz : w.frozen? ⟨Bf, 0, none⟩ = false) (hct : w.cell? ⟨Bt, 0, none⟩ = some (.int .u32 t)) :
    Calls Tryz.prog 56 #[.func (.func 74) #[] #[.pointer (some ⟨Bf, 0, none⟩), .pointer (some ⟨Bt, 0, none⟩)]] w fun e W' => ∃ v, e = .returned v ∧ W'.ownsRow w.heap.size 55 2 v L.length (CP L) ∧ Fr [] w00 W' := by
  have hl := cov_len hC
  have H := callsIn_wide.1 (appendSeq_in f t Bf Bt L hC hl.1 ht (by omega) w00 w hV0 hF hf0 hf1 ht1 hne hcf hfz hct)
  go_enter Tryz.func56, Tryz.ntmps56
  go_wp2_with fail
  refine H.mono ?_
  rintro e w' ⟨v, rfl, ho, hF⟩
  go_wp2_with fail
  go_ret
  exact ⟨v, rfl, ho, hF⟩
theorem coverMk (f t : Nat) (W : World) : Calls Tryz.prog 57 #[.int .u32 f, .int .u32 t] W fun e w' => e = .returned (.func (.func 74) #[] #[.pointer (some ⟨W.heap.size, 0, none⟩), .pointer (some ⟨W.heap.size + 1, 0, none⟩)]) ∧ w' = (W.alloc (.cells #[.int .u32 f] 37)).alloc (.cells #[.int .u32 t] 37) := by
  go_enter Tryz.func57, Tryz.ntmps57
  go_wp2
  go_ret
  exact ⟨rfl, rfl⟩
theorem cover_yes (f t : Nat) (L : List (Nat × Nat)) (hC : Cov t f L) (ht : t < 4294967296) (W : World) (hV : VV W) : Calls Tryz.prog 39 #[.int .u32 f, .int .u32 t] W fun e w' => ∃ v, e = .returned (.tuple #[v, .int .i64 0]) ∧ w'.ownsRow W.heap.size 55 2 v L.length (CP L) ∧ Fr [] W w' := by
  have hl := cov_len hC
  have h1 : ¬ (t : Int) < f := by omega
  have h2 : ¬ t < f := by omega
  go_enter Tryz.func39, Tryz.ntmps39
  go_wp2_with fail
  refine (coverMk f t _).mono ?_
  rintro e w' ⟨rfl, hw⟩
  have hF : Fr [] W w' := by rw [hw]; exact ((Fr.refl _ _).alloc _).alloc _
  have hsz : w'.heap.size = W.heap.size + 1 + 1 := by rw [hw]; simp
  have c0 : w'.cell? ⟨W.heap.size, 0, none⟩ = some (.int .u32 f) := by rw [hw]; exact old_cell (new_cell _ _ _ 0 _ rfl) _
  have c1 : w'.cell? ⟨W.heap.size + 1, 0, none⟩ = some (.int .u32 t) := by
    rw [hw]
    have := new_cell (W.alloc (.cells #[.int .u32 f] 37)) #[.int .u32 t] 37 0 _ rfl
    simp only [World.size_alloc] at this
    exact this
  have z0 : w'.frozen? ⟨W.heap.size, 0, none⟩ = false := by
    rw [hw]
    exact fr_fz ((Fr.refl [] _).alloc _) (by simp) (by simp) (World.frozen?_alloc_new _ _ _ _)
  have H := collect_any f t W.heap.size (W.heap.size + 1) L hC ht W w' hV hF (Nat.le_refl _) (by omega) (by omega) (by omega) c0 z0 c1
  have HSZ := Lib.hid hsz
  clear hw c0 c1 z0 hF hsz
  go_wp2_with fail
  refine H.mono ?_
  rintro e w2 ⟨v, rfl, ho, hF⟩
  go_wp2_with fail
  go_ret2
  exact ⟨v, rfl, own_ext ho (by have := HSZ.out; omega), hF⟩
theorem cover_no (f t : Nat) (hft : t < f) (W : World) : Calls Tryz.prog 39 #[.int .u32 f, .int .u32 t] W fun e w' => e = .returned (.tuple #[.slice none 0 0, .int .i64 2]) ∧ Fr [] W w' := by
  have h1 : (t : Int) < f := by omega
  go_enter Tryz.func39, Tryz.ntmps39
  go_wp2_with fail
  go_ret2
  exact ⟨rfl, Fr.refl _ _⟩
end Go.Proofs.YtjfadoealhlccaaGreatDoor
