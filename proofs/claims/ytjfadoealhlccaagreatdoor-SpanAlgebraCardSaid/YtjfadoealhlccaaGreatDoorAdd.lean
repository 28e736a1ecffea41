/- The builder of a set. -/
import Derived.Test.YtjfadoealhlccaaGreatDoorRest
import Derived.StillTailTactics
namespace Go.Proofs.YtjfadoealhlccaaGreatDoor
open Go.RowKit
set_option linter.unusedVariables false
set_option maxRecDepth 100000

theorem frz {S : List Nat} {w w' : World} (hF : Fr S w w') {g j : Nat} (hg : g < w.heap.size) (hS : g ∉ S) (h : w.frozen? ⟨g, j, none⟩ = false) : w'.frozen? ⟨g, j, none⟩ = false := by
  unfold World.frozen? at h ⊢
  simp only at h ⊢
  rw [hF.block g hg hS]
  exact h
theorem own_rdS {w : World} {A : Option Addr} {base : Nat} {e : TypeId} {n c : Nat} {l : List Sp} (h : w.ownsRow base e 2 (.slice A n c) n (CS l)) : Rd w A (CS l) := fun j u hu => by
  rcases h.2 with ⟨hv, rfl⟩ | ⟨g, cap, cur, hv, _⟩
  · have : CS l = [] := List.eq_nil_of_length_eq_zero (by simpa using h.1)
    rw [this] at hu
    simp at hu
  · injection hv with hA
    subst hA
    exact ⟨_, rfl, h.cells (g := g) rfl j u hu⟩
theorem rd_new2 (w : World) (l : List Value) (t : TypeId) : Rd (w.alloc (.cells l.toArray t)) (some ⟨w.heap.size, 0, none⟩) l := fun j u hu => by
  refine ⟨_, rfl, ?_⟩
  rw [add_lit', Nat.zero_add, World.cell?_alloc_at _ _ _ _ rfl]
  simpa using hu

/-- The builder's box holds a set of its own; what was there before it is as it was. -/
structure BI (B : Nat) (s : List Sp) (W0 W : World) : Prop where
  fr : Fr [] W0 W
  hB : W0.heap.size = B
  box : ∃ v, W.cell? ⟨B, 0, none⟩ = some v ∧ W.ownsRow (B + 1) 40 2 v s.length (CS s)
  fz : W.frozen? ⟨B, 0, none⟩ = false
  sz : B + 1 ≤ W.heap.size
  sb : SB s
theorem BI.fr' {B : Nat} {s : List Sp} {W0 W W' : World} (h : BI B s W0 W) (hF : Fr [] W W') : BI B s W0 W' := by
  obtain ⟨v, hc, ho⟩ := h.box
  exact ⟨h.fr.trans hF, h.hB, ⟨v, hF.cell hc (by simp), hF.own ho (by simp)⟩, frz hF h.sz (by simp) h.fz, Nat.le_trans h.sz hF.size, h.sb⟩

theorem CS_set (l : List Sp) (e : Sp) (y : Nat) : (CS (l ++ [e])).set (l.length * 2 + 1) (.int .u32 y) = CS (l ++ [(e.1, y)]) := by
  rw [CS_snoc, CS_snoc, List.set_append_right _ _ (by rw [CS_length]; omega), CS_length]
  rw [show l.length * 2 + 1 - 2 * l.length = 1 by omega]
  rfl

/-- The append: its run, and what becomes of the box. -/
theorem add_push {B : Nat} {s : List Sp} {W0 w : World} {A : Option Addr} {c x1 x2 : Nat} (hI : BI B s W0 w) (hc : w.cell? ⟨B, 0, none⟩ = some (.slice A s.length c)) (h1 : x1 < 4294967296) (h2 : x2 < 4294967296) (hn : s.length ≤ 10000000000) :
    ∃ A' c' w', (Builtin.append_ #[26, 26] 26 #[.slice A s.length c, .slice (some ⟨w.heap.size, 0, none⟩) 1 1]).run Tryz.prog (w.alloc (.cells #[.int .u32 x1, .int .u32 x2] 40)).drew = .ok (.slice A' (s.length + 1) c') w' ∧
      w'.cell? ⟨B, 0, none⟩ = some (.slice A s.length c) ∧ w'.frozen? ⟨B, 0, none⟩ = false ∧ BI B (s ++ [(x1, x2)]) W0 (w'.setCell ⟨B, 0, none⟩ (.slice A' (s.length + 1) c')) := by
  obtain ⟨v, hc', ho⟩ := hI.box
  rw [hc] at hc'
  injection hc' with hc'
  subst hc'
  have hB := hI.hB
  have hz := hI.sz
  have hf0 := hI.fr.size
  have hF1 : Fr [] w (w.alloc (.cells #[.int .u32 x1, .int .u32 x2] 40)).drew := ((Fr.refl [] w).alloc _).drew
  have hsz1 : (w.alloc (.cells #[.int .u32 x1, .int .u32 x2] 40)).drew.heap.size = w.heap.size + 1 := by simp [World.drew]
  obtain ⟨v', w', hr, ho2, hg, _⟩ := app_run elS (w.alloc (.cells #[.int .u32 x1, .int .u32 x2] 40)).drew (B + 1) 26 (.slice A s.length c) s.length (CS s) (own_alk (ho.alloc _) rfl)
    (some ⟨w.heap.size, 0, none⟩) 1 1 [.int .u32 x1, .int .u32 x2] rfl ((rd_new2 w _ _).alk rfl) (by simp [Value.oneCell']) (by simp) (by simp only [maxLen]; omega) (by omega) (by rw [hsz1]; omega)
  obtain ⟨A', c', rfl, _, _, _⟩ := own_slice ho2
  have hown : ∀ k ∈ (Value.slice A s.length c).ownBlock.toList, B + 1 ≤ k := fun k hk => (ho.lt k (by simpa using hk)).1
  have hF2 := fr_grown hg
  have hBn : B ∉ (Value.slice A s.length c).ownBlock.toList := fun h => by have := hown B h; omega
  have hc2 := hF2.cell (hF1.cell hc (by simp)) hBn
  have hf2 : w'.frozen? ⟨B, 0, none⟩ = false := frz hF2 (by omega) hBn (frz hF1 (by omega) (by simp) hI.fz)
  refine ⟨A', c', w', hr, hc2, hf2, ?_, hB, ⟨_, World.cell?_setCell_same _ _ _ hc2, ?_⟩, by simpa using hf2, ?_, ?_⟩
  · exact (((hI.fr.trans hF1).trans2 hF2 (fun t ht => .inr (by have := hown t ht; omega)))).setCell (.inr (by show W0.heap.size ≤ B; omega)) _
  · rw [List.length_append, CS_snoc]
    exact ownsRow_setCell_below ho2 (by show B < B + 1; omega) _
  · simp only [World.setCell]
    have := hF2.size
    simp
    omega
  · exact hI.sb.app (SB.one h1 h2)

set_option maxHeartbeats 2000000 in
theorem add_any (B : Nat) (s : List Sp) (x : Sp) (W0 w : World) (hI : BI B s W0 w) (h1 : x.1 < 4294967296) (h2 : x.2 < 4294967296) (hn : s.length ≤ 10000000000) :
    Calls Tryz.prog 62 #[.pointer (some ⟨B, 0, none⟩), .agg #[.int .u32 x.1, .int .u32 x.2]] w fun e w' => e = .returned (.bool true) ∧ BI B (addS s x) W0 w' := by
  obtain ⟨x1, x2⟩ := x
  simp only at h1 h2 ⊢
  have hI1 := hI.fr' ((Fr.refl [] w).alloc (.cells #[.int .u32 x1, .int .u32 x2] 40))
  have q1 : (w.alloc (.cells #[.int .u32 x1, .int .u32 x2] 40)).cell? ⟨w.heap.size, 0, none⟩ = some (.int .u32 x1) := new_cell _ _ _ 0 _ rfl
  have q2 : (w.alloc (.cells #[.int .u32 x1, .int .u32 x2] 40)).cell? ⟨w.heap.size, 1, none⟩ = some (.int .u32 x2) := new_cell _ _ _ 1 _ rfl
  obtain ⟨v, hc, ho⟩ := hI1.box
  obtain ⟨A, c, rfl, hAc, _, hAb⟩ := own_slice ho
  clear hI hAb hAc
  rcases snoc_cases s with hs | ⟨l, ⟨e1, e2⟩, hs⟩
  · subst hs
    rw [addS_nil]
    simp only [List.length_nil] at hc
    clear ho
    go_enter Tryz.func62, Tryz.ntmps62
    go_wp2_with fail
    generalize w.alloc (.cells #[.int .u32 x1, .int .u32 x2] 40) = w1 at hI1 q1 q2 hc ⊢
    generalize w.heap.size = gx at q1 q2 ⊢
    have X1 := xt_cell q1
    have X2 := xt_cell q2
    have X3 := xt_cell hc
    refine wp_region_xt (by kernel_rfl) (by kernel_rfl) ?_
    repeat (go_big_quiet_step (fail))
    refine wpQuiet_nil ?_
    rintro w2 ⟨y, rfl⟩
    replace hI1 := hI1.fr' (xt_fr y)
    replace q1 := X1 y
    replace q2 := X2 y
    replace hc := X3 y
    clear X1 X2 X3
    generalize xt y = w2 at hI1 q1 q2 hc ⊢
    obtain ⟨A', c', w3, hr, hc3, hf3, hI3⟩ := add_push hI1 hc h1 h2 hn
    simp only [List.length_nil, Nat.zero_add] at hr hI3 hc3
    have HI := Lib.hid hI3
    have hcA := old_cell hc (.cells #[.int .u32 x1, .int .u32 x2] 40)
    have qA1 := old_cell q1 (.cells #[.int .u32 x1, .int .u32 x2] 40)
    have qA2 := old_cell q2 (.cells #[.int .u32 x1, .int .u32 x2] 40)
    clear hI1 hI3
    go_wp2_with fail
    go_region_law (first | (refine step_app rfl _ _ _ rfl hr rfl rfl ?_))
    all_goals go_wp2
    all_goals go_ret
    all_goals exact ⟨rfl, HI.out⟩
  · have hlen : s.length = l.length + 1 := by rw [hs]; simp
    have hfz := hI1.fz
    obtain ⟨g, o', hA, y1, y2⟩ := rdS (k := l.length) (x := (e1, e2)) (own_rdS ho) (by rw [hs]; simp)
    subst hA
    obtain rfl : o' = 0 := by
      rcases ho.2 with ⟨hv, _⟩ | ⟨g2, cap, cur, hv, _⟩
      · cases hv
      · injection hv with hv
        injection hv with hv
        injection hv
    obtain ⟨m, hm⟩ : ∃ m, m = l.length := ⟨_, rfl⟩
    rw [hlen, ← hm] at hc
    rw [← hm] at y1 y2
    simp only [Nat.zero_add] at y1 y2
    have hmb : m ≤ 10000000000 := by omega
    have HM := Lib.hid hm
    have HLEN := Lib.hid hlen
    have HS := Lib.hid hs
    clear hm hlen hs
    have hi0 : (0 : Int) ≤ (m : Int) ∧ (m : Int) < ((m + 1 : Nat) : Int) := by omega
    have dm : decide ((m : Int) < 0) = false := decide_eq_false (by omega)
    have cA := fun W => apart_any e1 e2 x1 x2 h1 W
    by_cases hd : e2 + 1 < x1
    · rw [decide_eq_true hd] at cA
      go_enter Tryz.func62, Tryz.ntmps62
      go_wp2_with fail
      generalize w.alloc (.cells #[.int .u32 x1, .int .u32 x2] 40) = w1 at hI1 q1 q2 hc y1 y2 ho hfz ⊢
      generalize w.heap.size = gx at q1 q2 ⊢
      have X1 := xt_cell q1
      have X2 := xt_cell q2
      have X3 := xt_cell hc
      have X4 := xt_cell y1
      have X5 := xt_cell y2
      refine wp_region_xt (by kernel_rfl) (by kernel_rfl) ?_
      repeat (go_big_quiet_step ((go_at_call 32; exact Calls.xt (fun W' _ => cA W') _)))
      refine wpQuiet_nil ?_
      rintro w2 ⟨y, rfl⟩
      replace hI1 := hI1.fr' (xt_fr y)
      replace ho := (xt_fr y).own ho (by simp)
      replace q1 := X1 y
      replace q2 := X2 y
      replace hc := X3 y
      replace y1 := X4 y
      replace y2 := X5 y
      clear X1 X2 X3 X4 X5 cA
      generalize xt y = w2 at hI1 q1 q2 hc y1 y2 ho ⊢
      obtain ⟨A', c', w3, hr, hc3, hf3, hI3⟩ := add_push hI1 (by rw [HLEN.out, ← HM.out]; exact hc) h1 h2 hn
      rw [HLEN.out, ← HM.out] at hr hc3 hI3
      have hadd : addS s (x1, x2) = s ++ [(x1, x2)] := by rw [HS.out]; exact addS_far _ _ _ hd
      rw [← hadd] at hI3
      have HI := Lib.hid hI3
      clear hadd hI3 hI1 ho hfz
      have hcA := old_cell hc (.cells #[.int .u32 x1, .int .u32 x2] 40)
      have qA1 := old_cell q1 (.cells #[.int .u32 x1, .int .u32 x2] 40)
      have qA2 := old_cell q2 (.cells #[.int .u32 x1, .int .u32 x2] 40)
      go_wp2_with fail
      go_region_law (first | (refine step_app rfl _ _ _ rfl hr rfl rfl ?_))
      all_goals go_wp2
      all_goals go_ret
      all_goals exact ⟨rfl, HI.out⟩
    · rw [decide_eq_false hd] at cA
      go_enter Tryz.func62, Tryz.ntmps62
      go_wp2_with fail
      generalize w.alloc (.cells #[.int .u32 x1, .int .u32 x2] 40) = w1 at hI1 q1 q2 hc y1 y2 ho hfz ⊢
      generalize w.heap.size = gx at q1 q2 ⊢
      have X1 := xt_cell q1
      have X2 := xt_cell q2
      have X3 := xt_cell hc
      have X4 := xt_cell y1
      have X5 := xt_cell y2
      refine wp_region_xt (by kernel_rfl) (by kernel_rfl) ?_
      repeat (go_big_quiet_step ((go_at_call 32; exact Calls.xt (fun W' _ => cA W') _)))
      refine wpQuiet_nil ?_
      rintro w2 ⟨y, rfl⟩
      replace hI1 := hI1.fr' (xt_fr y)
      replace ho := (xt_fr y).own ho (by simp)
      replace q1 := X1 y
      replace q2 := X2 y
      replace hc := X3 y
      replace y1 := X4 y
      replace y2 := X5 y
      clear X1 X2 X3 X4 X5 cA
      generalize xt y = w2 at hI1 q1 q2 hc y1 y2 ho ⊢
      go_wp2_with fail
      refine wp_region_still_tail 18 (by kernel_rfl) (by kernel_rfl) ?_
      have hFd : Fr [] w2 ({ w2 with drawn := w2.drawn + 1 } : World) := (Fr.refl [] w2).drew
      replace hI1 := hI1.fr' hFd
      replace ho := hFd.own ho (by simp)
      replace q1 := hFd.cell q1 (by simp)
      replace q2 := hFd.cell q2 (by simp)
      replace hc := hFd.cell hc (by simp)
      replace y1 := hFd.cell y1 (by simp)
      replace y2 := hFd.cell y2 (by simp)
      clear hFd
      generalize ({ w2 with drawn := w2.drawn + 1 } : World) = w4 at hI1 ho q1 q2 hc y1 y2 ⊢
      have hfB := hI1.fz
      have hfg := ho.frozenAt (m * 2 + 1)
      have hst := ho.stored (m * 2 + 1) (.int .u32 ((max e2 x2 : Nat) : Int))
      have hgb : B + 1 ≤ g := (ho.lt g rfl).1
      have hBI : BI B (addS s (x1, x2)) W0 (w4.setCell ⟨g, m * 2 + 1, none⟩ (.int .u32 ((max e2 x2 : Nat) : Int))) := by
        have hadd : addS s (x1, x2) = l ++ [(e1, max e2 x2)] := by rw [HS.out]; exact addS_near _ _ _ hd
        have hl2 : (l ++ [(e1, max e2 x2)]).length = s.length := by rw [HS.out]; simp
        have hFs : Fr [g] w4 (w4.setCell ⟨g, m * 2 + 1, none⟩ (.int .u32 ((max e2 x2 : Nat) : Int))) := (Fr.refl _ _).setCell (.inl (by simp)) _
        have hsb := hI1.sb
        rw [HS.out] at hsb
        refine ⟨hI1.fr.trans2 hFs (fun t ht => .inr (by simp at ht; have := hI1.hB; omega)), hI1.hB, ⟨_, hFs.cell hc (by simp; omega), ?_⟩, frz hFs hI1.sz (by simp; omega) hfB, Nat.le_trans hI1.sz hFs.size, ?_⟩
        · rw [hadd, hl2]
          have h3 := hst.1
          rw [HS.out, HM.out, CS_set, ← HS.out, HLEN.out, ← HM.out] at h3
          rw [HLEN.out, ← HM.out]
          exact h3
        · rw [hadd]
          exact hsb.left.app (SB.one (hsb.right (e1, e2) (by simp)).1 (by show max e2 x2 < 4294967296; have := (hsb.right (e1, e2) (by simp)).2; simp only at this; omega))
      have HBI := Lib.hid hBI
      clear hBI hst hI1 ho hfz hn hgb
      simp only [List.take_succ_cons, List.take_zero, List.drop_succ_cons, List.drop_zero]
      have hi1 : (m : Int) < (m : Int) + 1 := by omega
      have hi2 : 0 ≤ (m : Int) := by omega
      have hi3 : ¬ (m : Int) < 0 := by omega
      have hi4 : m < m + 1 := by omega
      repeat still_step
      refine wpStill_nil ?_
      go_wp2
      all_goals go_ret
      all_goals have hb := HBI.out
      all_goals first
        | (rw [show max e2 x2 = x2 by omega] at hb; exact ⟨rfl, hb⟩)
        | (rw [show max e2 x2 = e2 by omega] at hb; exact ⟨rfl, hb⟩)
end Go.Proofs.YtjfadoealhlccaaGreatDoor
