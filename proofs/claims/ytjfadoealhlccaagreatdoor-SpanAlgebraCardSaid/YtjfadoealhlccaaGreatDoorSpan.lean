/- Spans in memory; a span is right; two are apart; Right. -/
import Derived.Test.YtjfadoealhlccaaGreatDoorCho
import Derived.Test.YtjfadoealhlccaaGreatDoorApp
import Derived.Test.YtjfadoealhlccaaGreatDoorProg
import Derived.Test.YtjfadoealhlccaaGreatDoorXt
import Derived.Sort.AtCall
import Derived.Deep.DeepCutAuto
namespace Go.Proofs.YtjfadoealhlccaaGreatDoor
open Go.RowKit
set_option linter.unusedVariables false
set_option maxRecDepth 100000

/-- Spans as the cells that hold them. -/
def CS (l : List Sp) : List Value := l.flatMap fun p => [.int .u32 p.1, .int .u32 p.2]
theorem CS_snoc (l : List Sp) (x : Sp) : CS (l ++ [x]) = CS l ++ [.int .u32 x.1, .int .u32 x.2] := by simp [CS]
theorem CS_app (l m : List Sp) : CS (l ++ m) = CS l ++ CS m := by simp [CS]
theorem CS_length (l : List Sp) : (CS l).length = 2 * l.length := by
  induction l with
  | nil => rfl
  | cons x l ih => simp only [CS, List.flatMap_cons, List.length_append, List.length_cons, List.length_nil] at ih ⊢; omega
theorem CS_get {l : List Sp} {k : Nat} {x : Sp} (h : l[k]? = some x) : (CS l)[k * 2]? = some (.int .u32 x.1) ∧ (CS l)[k * 2 + 1]? = some (.int .u32 x.2) := by
  induction l generalizing k with
  | nil => simp at h
  | cons y l ih =>
    match k, h with
    | 0, h => simp at h; subst h; exact ⟨rfl, rfl⟩
    | k + 1, h =>
      have := ih (k := k) (by simpa using h)
      have e1 : (k + 1) * 2 = k * 2 + 2 := by omega
      rw [e1]
      exact this
theorem CS_one (l : List Sp) : ∀ u ∈ CS l, u.oneCell' = true := by
  intro u hu
  simp only [CS, List.mem_flatMap] at hu
  obtain ⟨p, _, hu⟩ := hu
  simp only [List.mem_cons, List.not_mem_nil, or_false] at hu
  rcases hu with rfl | rfl <;> rfl
theorem CS_drop (l : List Sp) (k : Nat) : CS (l.drop k) = (CS l).drop (k * 2) := by
  induction k generalizing l with
  | zero => simp
  | succ k ih =>
    cases l with
    | nil => simp [CS]
    | cons y l =>
      rw [List.drop_succ_cons, ih, show (k + 1) * 2 = k * 2 + 1 + 1 by omega]
      simp [CS]
theorem spanInfo : (Tryz.prog.info? 40).map (fun i => (i.zero, i.size, i.bytes)) = some (some (.agg #[.int .u32 0, .int .u32 0]), 2, 8) := by kernel_rfl
theorem elS : El Tryz.prog 26 40 2 8 := .of (z := .agg #[.int .u32 0, .int .u32 0]) Tryz.underlying26 spanInfo rfl (by decide)
theorem elL : El Tryz.prog 25 40 2 8 := .of (z := .agg #[.int .u32 0, .int .u32 0]) Tryz.underlying25 spanInfo rfl (by decide)
theorem addr_of' {w : World} {ad : Addr} {u : Value} (h : w.cell? ad = some u) : ∃ b o, ad = ⟨b, o, none⟩ := by
  obtain ⟨b, o, s⟩ := ad
  cases s with
  | none => exact ⟨b, o, rfl⟩
  | some s =>
    exfalso
    unfold World.cell? at h
    split at h <;> simp at h
theorem add_lit' (b o j : Nat) : (⟨b, o, none⟩ : Addr).add j = ⟨b, o + j, none⟩ := by unfold Addr.add; split <;> simp_all
theorem rd_addr' {w : World} {A : Option Addr} {xs : List Value} (h : Rd w A xs) (hx : 0 < xs.length) : ∃ b o, A = some ⟨b, o, none⟩ := by
  obtain ⟨ad, e, hc⟩ := h 0 xs[0] (List.getElem?_eq_getElem hx)
  obtain ⟨b, o, e2⟩ := addr_of' hc
  obtain ⟨b', o', s⟩ := ad
  cases s with
  | none => exact ⟨b', o', e⟩
  | some s =>
    exfalso
    unfold Addr.add at e2
    simp at e2
/-- The two cells of one span of a slice. -/
theorem rdS {w : World} {A : Option Addr} {l : List Sp} {k : Nat} {x : Sp} (h : Rd w A (CS l)) (hx : l[k]? = some x) : ∃ b o, A = some ⟨b, o, none⟩ ∧ w.cell? ⟨b, o + k * 2, none⟩ = some (.int .u32 x.1) ∧ w.cell? ⟨b, o + k * 2 + 1, none⟩ = some (.int .u32 x.2) := by
  obtain ⟨h1, h2⟩ := CS_get hx
  have hk : k < l.length := (List.getElem?_eq_some_iff.1 hx).1
  obtain ⟨b, o, rfl⟩ := rd_addr' h (by rw [CS_length]; omega)
  have g1 := h.get h1
  have g2 := h.get h2
  rw [add_lit'] at g1 g2
  exact ⟨b, o, rfl, g1, by rw [Nat.add_assoc]; exact g2⟩
theorem rdS_at {w : World} {b o : Nat} {l : List Sp} {k : Nat} {x : Sp} (h : Rd w (some ⟨b, o, none⟩) (CS l)) (hx : l[k]? = some x) : w.cell? ⟨b, o + k * 2, none⟩ = some (.int .u32 x.1) ∧ w.cell? ⟨b, o + k * 2 + 1, none⟩ = some (.int .u32 x.2) := by
  obtain ⟨b', o', e, h1, h2⟩ := rdS h hx
  injection e with e
  injection e with e1 e2
  subst e1 e2
  exact ⟨h1, h2⟩

theorem sright_any (a b : Nat) (W : World) : Calls Tryz.prog 31 #[.agg #[.int .u32 a, .int .u32 b]] W fun e w' => e = .returned (.bool (decide (a ≤ b))) ∧ Fr [] W w' := by
  go_enter Tryz.func31, Tryz.ntmps31
  go_wp2
  go_ret
  exact ⟨rfl, (Fr.refl _ _).alloc _⟩
theorem apart_any (a b c d : Nat) (hc : c < 4294967296) (W : World) : Calls Tryz.prog 32 #[.agg #[.int .u32 a, .int .u32 b], .agg #[.int .u32 c, .int .u32 d]] W fun e w' => e = .returned (.bool (decide (b + 1 < c))) ∧ Fr [] W w' := by
  by_cases h : b < c
  · have h1 : decide (b < c) = true := decide_eq_true h
    have e : IntKind.u32.wrap ((c : Int) - b) = (c : Int) - b := by rw [IntKind.wrap_u32]; omega
    have e2 : decide ((1 : Int) < (c : Int) - b) = decide (b + 1 < c) := decide_eq_decide.2 (by omega)
    go_enter Tryz.func32, Tryz.ntmps32
    go_wp2
    go_ret
    exact ⟨by rw [← e2]; rfl, ((Fr.refl _ _).alloc _).alloc _⟩
  · have h1 : decide (b < c) = false := decide_eq_false h
    have h2 : decide (b + 1 < c) = false := decide_eq_false (by omega)
    rw [h2]
    go_enter Tryz.func32, Tryz.ntmps32
    go_wp2
    go_ret
    exact ⟨rfl, ((Fr.refl _ _).alloc _).alloc _⟩

theorem nxt_take {l : List Sp} {k : Nat} (hk : k < l.length) : nxt 0 (l.take k) = if k = 0 then 0 else (l.getD (k - 1) (0, 0)).2 + 2 := by
  cases k with
  | zero => rfl
  | succ k =>
    rw [if_neg (by omega), List.take_succ_eq_append_getElem (by omega), nxt_snoc, Nat.add_sub_cancel, List.getD_eq_getElem?_getD, List.getElem?_eq_getElem (by omega)]
    rfl
theorem rsf_take_succ {l : List Sp} {k : Nat} {x : Sp} (hx : l[k]? = some x) : RSf 0 (l.take (k + 1)) ↔ RSf 0 (l.take k) ∧ (k = 0 ∨ ∃ y, l[k - 1]? = some y ∧ y.2 + 2 ≤ x.1) ∧ x.1 ≤ x.2 := by
  obtain ⟨hk, e⟩ := List.getElem?_eq_some_iff.1 hx
  rw [List.take_succ_eq_append_getElem hk, rsf_snoc, e, nxt_take hk]
  by_cases h0 : k = 0
  · subst h0; simp
  · have hy : l[k - 1]? = some (l[k - 1]'(by omega)) := List.getElem?_eq_getElem (by omega)
    rw [if_neg h0, List.getD_eq_getElem?_getD, hy, Option.getD_some]
    constructor
    · rintro ⟨h1, h2, h3⟩; exact ⟨h1, .inr ⟨_, rfl, h2⟩, h3⟩
    · rintro ⟨h1, h2 | ⟨y, h2, h4⟩, h3⟩
      · exact absurd h2 h0
      · injection h2 with h2
        subst h2
        exact ⟨h1, h4, h3⟩
theorem rsf_take {l : List Sp} (k : Nat) (h : RSf 0 l) : RSf 0 (l.take k) := by
  have := (rsf_app 0 (l.take k) (l.drop k)).1 (by rw [List.take_append_drop]; exact h)
  exact this.1

set_option maxHeartbeats 2000000 in
theorem rightS_any (A : Option Addr) (n c : Nat) (l : List Sp) (w : World) (hl : l.length = n) (hs : SB l) (hR : Rd w A (CS l)) (hn : n ≤ 1000000000000) :
    Calls Tryz.prog 16 #[.slice A n c] w fun e w' => e = .returned (.bool (decide (RSf 0 l))) ∧ Fr [] w w' := by
  have HL := Lib.hid hl
  have HS := Lib.hid hs
  clear hl hs
  obtain ⟨B, hB⟩ : ∃ B, B = decide (RSf 0 l) := ⟨_, rfl⟩
  rw [← hB]
  have HB := Lib.hid hB
  clear hB
  go_enter Tryz.func16, Tryz.ntmps16
  go_wp2
  go_loopw [7] (fun i wr => ∃ k : Nat, k ≤ n ∧ i = .int .i64 k ∧ RSf 0 (l.take k) ∧ Fr [] w wr) (fun i _ => n - (intOf i).toNat)
  case atStart => exact ⟨0, Nat.zero_le _, rfl, trivial, Fr.refl _ _⟩
  case round =>
    obtain ⟨k, hk, rfl, hT, hF⟩ := hrel
    by_cases hlt : k < n
    · obtain ⟨⟨a, b⟩, hx⟩ : ∃ x, l[k]? = some x := ⟨_, List.getElem?_eq_getElem (by rw [HL.out]; exact hlt)⟩
      have hbnd := HS.out.get hx
      have hst := rsf_take_succ hx
      obtain ⟨bb, oo, rfl, p1, p2⟩ := rdS (hR.fr hF (by simp)) hx
      simp only at p1 p2 hbnd hst
      have HT := Lib.hid hT
      have HX := Lib.hid hx
      have HST := Lib.hid hst
      clear hT hx hst
      have hi0 : (0 : Int) ≤ (k : Int) ∧ (k : Int) < n := by omega
      go_wp2
      have q1 : (wr.alloc (.cells #[.int .u32 a, .int .u32 b] 40)).cell? ⟨wr.heap.size, 0, none⟩ = some (.int .u32 a) := new_cell _ _ _ 0 _ rfl
      have q2 : (wr.alloc (.cells #[.int .u32 a, .int .u32 b] 40)).cell? ⟨wr.heap.size, 1, none⟩ = some (.int .u32 b) := new_cell _ _ _ 1 _ rfl
      have hF2 := hF.alloc (.cells #[.int .u32 a, .int .u32 b] 40)
      generalize wr.alloc (.cells #[.int .u32 a, .int .u32 b] 40) = w1 at q1 q2 hF2 ⊢
      generalize wr.heap.size = g1 at q1 q2 ⊢
      have x1 := xt_cell q1
      have x2 := xt_cell q2
      have cR := fun W => sright_any a b W
      clear p1 p2 q1 q2
      by_cases hab : a ≤ b
      · rw [decide_eq_true hab] at cR
        by_cases hk0 : 0 < k
        · obtain ⟨⟨c0, d0⟩, hy⟩ : ∃ y, l[k - 1]? = some y := ⟨_, List.getElem?_eq_getElem (by rw [HL.out]; omega)⟩
          have hR2 := hR.fr hF2 (by simp)
          obtain ⟨y1, y2⟩ := rdS_at hR2 hy
          simp only at y1 y2
          have z1 := xt_cell y1
          have z2 := xt_cell y2
          have cA := fun W => apart_any c0 d0 a b hbnd.1 W
          have dk : decide (0 < k) = true := decide_eq_true hk0
          have ik : (0 : Int) < (k : Int) := by omega
          have ik1 : (1 : Int) ≤ (k : Int) := by omega
          have ik2 : 0 ≤ (k : Int) - 1 ∧ (k : Int) - 1 < n := by omega
          have tk : ((k : Int) - 1).toNat = k - 1 := by omega
          have wk : IntKind.i64.wrap ((k : Int) - 1) = (k : Int) - 1 := i64_of (by omega) (by omega)
          have HY := Lib.hid hy
          clear hR2 y1 y2 hy
          by_cases hd : d0 + 1 < a
          · rw [decide_eq_true hd] at cA
            refine wp_region_xt (by kernel_rfl) (by kernel_rfl) ?_
            repeat (go_big_quiet_step ((first
              | (go_at_call 31; exact Calls.xt (fun W' _ => cR W') _)
              | (go_at_call 32; exact Calls.xt (fun W' _ => cA W') _))))
            refine wpQuiet_nil ?_
            rintro w2 ⟨y, rfl⟩
            have hy := hF2.trans (xt_fr y)
            clear x1 x2 z1 z2 cR cA tk wk
            go_wp2
            go_roundw
            case rel => exact ⟨k + 1, by omega, by go_num, HST.out.2 ⟨HT.out, .inr ⟨_, HY.out, by show d0 + 2 ≤ a; omega⟩, hab⟩, hy⟩
            case measure => simp [intOf]; omega
          · rw [decide_eq_false hd] at cA
            refine wp_region_xt (by kernel_rfl) (by kernel_rfl) ?_
            repeat (go_big_quiet_step ((first
              | (go_at_call 31; exact Calls.xt (fun W' _ => cR W') _)
              | (go_at_call 32; exact Calls.xt (fun W' _ => cA W') _))))
            refine wpQuiet_nil ?_
            rintro w2 ⟨y, rfl⟩
            have hy := hF2.trans (xt_fr y)
            clear x1 x2 z1 z2 cR cA tk wk
            have hBf : B = false := by
              rw [HB.out]
              refine decide_eq_false fun h => ?_
              have h1 := (HST.out.1 (rsf_take (k + 1) h)).2.1
              rcases h1 with h1 | ⟨y, h1, h2⟩
              · omega
              · rw [HY.out] at h1
                injection h1 with h1
                subst h1
                simp only at h2
                omega
            subst hBf
            go_wp2
            go_ret
            exact ⟨rfl, hy⟩
        · have dk : decide (0 < k) = false := decide_eq_false hk0
          have ik : ¬ (0 : Int) < (k : Int) := by omega
          refine wp_region_xt (by kernel_rfl) (by kernel_rfl) ?_
          repeat (go_big_quiet_step ((first
            | (go_at_call 31; exact Calls.xt (fun W' _ => cR W') _))))
          refine wpQuiet_nil ?_
          rintro w2 ⟨y, rfl⟩
          have hy := hF2.trans (xt_fr y)
          clear x1 x2 cR
          go_wp2
          go_roundw
          case rel => exact ⟨k + 1, by omega, by go_num, HST.out.2 ⟨HT.out, .inl (by omega), hab⟩, hy⟩
          case measure => simp [intOf]; omega
      · rw [decide_eq_false hab] at cR
        refine wp_region_xt (by kernel_rfl) (by kernel_rfl) ?_
        repeat (go_big_quiet_step ((first
          | (go_at_call 31; exact Calls.xt (fun W' _ => cR W') _))))
        refine wpQuiet_nil ?_
        rintro w2 ⟨y, rfl⟩
        have hy := hF2.trans (xt_fr y)
        clear x1 x2 cR
        have hBf : B = false := by
          rw [HB.out]
          exact decide_eq_false fun h => hab (HST.out.1 (rsf_take (k + 1) h)).2.2
        subst hBf
        go_wp2
        go_ret
        exact ⟨rfl, hy⟩
    · obtain rfl : k = n := by omega
      have hBt : B = true := by
        rw [HB.out]
        rw [← HL.out, List.take_length] at hT
        exact decide_eq_true hT
      subst hBt
      clear hT
      go_wp2
      go_ret
      exact ⟨rfl, hF⟩
end Go.Proofs.YtjfadoealhlccaaGreatDoor
