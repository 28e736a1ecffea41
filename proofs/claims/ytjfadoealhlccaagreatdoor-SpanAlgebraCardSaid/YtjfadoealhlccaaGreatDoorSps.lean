/- The statement's own functions: spans, same. -/
import Derived.Test.YtjfadoealhlccaaGreatDoorRed
import Derived.Test.YtjfadoealhlccaaGreatDoorPrf
import Derived.Test.YtjfadoealhlccaaGreatDoorOf
import Derived.Laws.StructEq
namespace Go.Proofs.YtjfadoealhlccaaGreatDoor
open Go.RowKit
set_option linter.unusedVariables false
set_option maxRecDepth 100000

set_option maxHeartbeats 2000000 in
theorem spans_any (b o n N c : Nat) (l : List Sp) (w : World) (hl : l.length = n) (hs : SB l) (hR : Rd w (some ⟨b, o, none⟩) (CS l)) (hn : n ≤ 1000000) (hN : N = 2 * n) :
    Calls Tryz.prog 26 #[.slice (some ⟨b, o, none⟩) N c] w fun e w' => ∃ A' c', e = .returned (.slice A' n c') ∧ w'.ownsRow w.heap.size 40 2 (.slice A' n c') n (CS l) ∧ Fr [] w w' := by
  have HL := Lib.hid hl
  have HS := Lib.hid hs
  clear hl hs
  go_enter Tryz.func26, Tryz.ntmps26
  go_wp2
  go_loopw [3, 4] (fun v i wr => ∃ k : Nat, k ≤ n ∧ i = .int .i64 ((2 * k : Nat) : Int) ∧ wr.ownsRow w.heap.size 40 2 v k (CS (l.take k)) ∧ Fr [] w wr) (fun _ i _ => N - (intOf i).toNat)
  case atStart => exact ⟨0, Nat.zero_le _, rfl, World.ownsRow_nil _ _ _ _, Fr.refl _ _⟩
  case round =>
    obtain ⟨k, hk, rfl, ho, hF⟩ := hrel
    by_cases hlt : k < n
    · obtain ⟨⟨x1, x2⟩, hx⟩ : ∃ x, l[k]? = some x := ⟨_, List.getElem?_eq_getElem (by rw [HL.out]; exact hlt)⟩
      have hbnd := HS.out.get hx
      obtain ⟨p1, p2⟩ := rdS_at (hR.fr hF (by simp)) hx
      simp only at p1 p2 hbnd
      have hsn : CS (l.take (k + 1)) = CS (l.take k) ++ [.int .u32 x1, .int .u32 x2] := by rw [take_snoc hx, CS_snoc]
      obtain ⟨A', c', rfl, _, _, _⟩ := own_slice ho
      have hF1 : Fr [] wr (wr.alloc (.cells #[.int .u32 x1, .int .u32 x2] 40)).drew := ((Fr.refl _ _).alloc _).drew
      obtain ⟨v', w6, hr, ho6, hg6, -⟩ := app_run elS (wr.alloc (.cells #[.int .u32 x1, .int .u32 x2] 40)).drew w.heap.size 26 _ k (CS (l.take k)) (own_alk (ho.alloc _) rfl) (some ⟨wr.heap.size, 0, none⟩) 1 1 [.int .u32 x1, .int .u32 x2] rfl (fun j u hu => ⟨_, rfl, by
        rw [Lib.add_plain, Nat.zero_add]
        exact new_cell wr #[.int .u32 x1, .int .u32 x2] 40 j u (by simpa using hu)⟩) (by simp [Value.oneCell']) (by simp) (by simp only [maxLen]; omega) (by omega) (by have := hF.size; have := hF1.size; omega)
      rw [← hsn] at ho6
      have hO : ∀ t ∈ (Value.slice A' k c').ownBlock.toList, w.heap.size ≤ t := fun t ht => (ho.lt t (by simpa using ht)).1
      have hF6 : Fr [] w w6 := (hF.trans hF1).trans2 (fr_grown hg6) (fun t ht => .inr (hO t ht))
      have HO := Lib.hid ho6
      have e1 : o + k * 2 = o + 2 * k := by omega
      rw [e1] at p1 p2
      obtain ⟨m, hm⟩ : ∃ m, m = 2 * k := ⟨_, rfl⟩
      rw [← hm] at p1 p2 ⊢
      have hm1 : m + 1 < N := by omega
      have hm2 : m < N := by omega
      have hi0 : (0 : Int) ≤ (m : Int) ∧ (m : Int) < (N : Int) := by omega
      have hi1 : (0 : Int) ≤ (m : Int) + 1 ∧ (m : Int) + 1 < (N : Int) := by omega
      have hmb : m + 2 ≤ 9223372036854775807 := by omega
      have hw1 : IntKind.i64.wrap ((m : Int) + 1) = ((m + 1 : Nat) : Int) := by rw [IntKind.wrap_i64]; omega
      have hw2 : IntKind.i64.wrap ((m : Int) + 2) = ((m + 2 : Nat) : Int) := by rw [IntKind.wrap_i64]; omega
      have hi3 : (0 : Int) ≤ ((m + 1 : Nat) : Int) ∧ ((m + 1 : Nat) : Int) < (N : Int) := by omega
      have p3 : wr.cell? ⟨b, o + (m + 1), none⟩ = some (.int .u32 x2) := p2
      have HM := Lib.hid hm
      have HNN := Lib.hid hN
      have q1 := old_cell p1 (.cells #[.int .u32 x1, .int .u32 x2] 40)
      have q3 := old_cell p3 (.cells #[.int .u32 x1, .int .u32 x2] 40)
      have q2 := old_cell p2 (.cells #[.int .u32 x1, .int .u32 x2] 40)
      clear hO ho6 hg6 ho hsn hF1 hm e1 hN hx
      go_wp2_with fail
      go_region_law (first | (refine step_app rfl _ _ _ rfl hr rfl rfl ?_))
      all_goals go_wp2
      all_goals have hmk := HM.out
      all_goals have hnn := HNN.out
      all_goals exact ⟨⟨k + 1, by omega, by rw [show ((2 * (k + 1) : Nat) : Int) = (m : Int) + 2 by omega], HO.out, hF6⟩, by simp [intOf]; omega⟩
    · obtain rfl : k = n := by omega
      rw [← HL.out, List.take_length] at ho
      rw [HL.out] at ho
      obtain ⟨A', c', rfl, _, _, _⟩ := own_slice ho
      have HO := Lib.hid ho
      have hk2 : ¬ 2 * k + 1 < N := by omega
      have hk3 : ¬ 2 * (k : Int) + 1 < N := by omega
      clear ho
      go_wp2
      go_ret
      exact ⟨A', c', rfl, HO.out, hF⟩
theorem eq_span (x1 x2 y1 y2 : Int) (w : World) : Sem.run Tryz.prog (Op.equalIn 10000 40 (.agg #[.int .u32 x1, .int .u32 x2]) (.agg #[.int .u32 y1, .int .u32 y2])) w = .ok (x1 == y1 && x2 == y2) w := by
  have u1 := Tryz.underlying37
  have a1 := Tryz.isAgg37
  have z1 := Tryz.sizeOf37
  have hS : Tryz.prog.underlying 40 = some (.struct (Tryz.prog.fieldsOf 40)) := by kernel_rfl
  have hp : Tryz.prog.stoodInHeld 40 = false := by kernel_rfl
  rw [show (10000 : Nat) = 9999 + 1 from rfl, run_equalIn_agg w 9999 40 _ _ hS hp]
  simp only [Program.fieldsOf, Tryz.underlying40]
  go_simp
  by_cases h1 : x1 = y1 <;> by_cases h2 : x2 = y2 <;> simp [h1, h2]
set_option maxHeartbeats 2000000 in
theorem same_any (a b : ArgS) (w : World) (oa : a.Ok w) (ob : b.Ok w) :
    Calls Tryz.prog 15 #[.slice a.A a.n a.c, .slice b.A b.n b.c] w fun e w' => e = .returned (.bool (decide (a.l = b.l))) ∧ Fr [] w w' := by
  obtain ⟨A, n, c, l⟩ := a
  obtain ⟨B, m, d, r⟩ := b
  have hR := oa.rd
  have hQ := ob.rd
  have hnb := oa.n
  have hmb := ob.n
  have HL := Lib.hid oa.len
  have HM := Lib.hid ob.len
  simp only at hR hQ hnb hmb HL HM ⊢
  clear oa ob
  obtain ⟨D, hD⟩ : ∃ D, D = decide (l = r) := ⟨_, rfl⟩
  rw [← hD]
  have HD := Lib.hid hD
  clear hD
  by_cases hnm : n = m
  · subst hnm
    go_enter Tryz.func15, Tryz.ntmps15
    go_wp2
    go_loopw [13] (fun i wr => ∃ k : Nat, k ≤ n ∧ i = .int .i64 k ∧ l.take k = r.take k ∧ Fr [] w wr) (fun i _ => n - (intOf i).toNat)
    case atStart => exact ⟨0, Nat.zero_le _, rfl, rfl, Fr.refl _ _⟩
    case round =>
      obtain ⟨k, hk, rfl, hT, hF⟩ := hrel
      by_cases hlt : k < n
      · obtain ⟨⟨x1, x2⟩, hx⟩ : ∃ x, l[k]? = some x := ⟨_, List.getElem?_eq_getElem (by rw [HL.out]; exact hlt)⟩
        obtain ⟨⟨y1, y2⟩, hy⟩ : ∃ x, r[k]? = some x := ⟨_, List.getElem?_eq_getElem (by rw [HM.out]; exact hlt)⟩
        obtain ⟨b1, o1, rfl, p1, p2⟩ := rdS (hR.fr hF (by simp)) hx
        obtain ⟨b2, o2, rfl, q1, q2⟩ := rdS (hQ.fr hF (by simp)) hy
        simp only at p1 p2 q1 q2
        have hi0 : (0 : Int) ≤ (k : Int) ∧ (k : Int) < n := by omega
        have hT1 : l.take (k + 1) = l.take k ++ [(x1, x2)] := take_snoc hx
        have hT2 : r.take (k + 1) = r.take k ++ [(y1, y2)] := take_snoc hy
        have X1 := xt_cell p1
        have X2 := xt_cell p2
        have X3 := xt_cell q1
        have X4 := xt_cell q2
        obtain ⟨E, hE⟩ : ∃ E : Bool, E = ((x1 : Int) == y1 && (x2 : Int) == y2) := ⟨_, rfl⟩
        have heq : ∀ W, Sem.run Tryz.prog (Op.equalIn 10000 40 (.agg #[.int .u32 x1, .int .u32 x2]) (.agg #[.int .u32 y1, .int .u32 y2])) W = .ok E W := fun W => by rw [hE]; exact eq_span x1 x2 y1 y2 W
        have hEE : (E = true ∧ l.take (k + 1) = r.take (k + 1)) ∨ (E = false ∧ l ≠ r) := by
          by_cases hxy : x1 = y1 ∧ x2 = y2
          · obtain ⟨rfl, rfl⟩ := hxy
            exact .inl ⟨by rw [hE]; simp, by rw [hT1, hT2, hT]⟩
          · refine .inr ⟨?_, fun h => hxy ?_⟩
            · rw [hE]
              by_cases h1 : x1 = y1
              · have h2 : x2 ≠ y2 := fun h => hxy ⟨h1, h⟩
                simp [h1]
                omega
              · have : ((x1 : Int) == y1) = false := by rw [beq_eq_false_iff_ne]; omega
                rw [this]; rfl
            · subst h
              rw [hx] at hy
              injection hy with hy
              injection hy with hy1 hy2
              exact ⟨hy1, hy2⟩
        have HEE := Lib.hid hEE
        clear hE hEE hT1 hT2 hx hy p1 p2 q1 q2 hT
        go_wp2_with fail
        refine wp_region_xt (by kernel_rfl) (by kernel_rfl) ?_
        repeat (go_big_quiet_step (fail))
        refine wpQuiet_nil ?_
        rintro w1 ⟨y, rfl⟩
        have hF1 := hF.trans (xt_fr y)
        clear X1 X2 X3 X4 heq hF
        generalize xt y = w1 at hF1 ⊢
        rcases HEE.out with ⟨rfl, hT⟩ | ⟨rfl, hN⟩
        · have HT := Lib.hid hT
          clear hT
          go_wp2
          exact ⟨⟨k + 1, by omega, by go_num, HT.out, hF1⟩, by simp [intOf]; omega⟩
        · have hN2 : decide (l = r) = false := decide_eq_false hN
          obtain rfl : D = false := by rw [HD.out]; exact hN2
          clear hN hN2
          go_wp2
          go_ret
          exact ⟨rfl, hF1⟩
      · obtain rfl : k = n := by omega
        have hN2 : decide (l = r) = true := by
          apply decide_eq_true
          rw [← List.take_length (l := l), ← List.take_length (l := r), HL.out, HM.out]
          exact hT
        obtain rfl : D = true := by rw [HD.out]; exact hN2
        clear hN2 hT
        go_wp2
        go_ret
        exact ⟨rfl, hF⟩
  · have hN2 : decide (l = r) = false := decide_eq_false fun h => hnm (by rw [← HL.out, ← HM.out, h])
    obtain rfl : D = false := by rw [HD.out]; exact hN2
    have hne : ((n : Int) == m) = false := by rw [beq_eq_false_iff_ne]; omega
    clear hN2
    go_enter Tryz.func15, Tryz.ntmps15
    go_wp2
    go_ret
    exact ⟨rfl, Fr.refl _ _⟩
end Go.Proofs.YtjfadoealhlccaaGreatDoor
