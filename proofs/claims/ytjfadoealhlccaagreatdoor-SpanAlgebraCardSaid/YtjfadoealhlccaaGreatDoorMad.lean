/- Made: a right set of pieces. -/
import Derived.Test.YtjfadoealhlccaaGreatDoorAws
namespace Go.Proofs.YtjfadoealhlccaaGreatDoor
open Go.RowKit
set_option linter.unusedVariables false
set_option maxRecDepth 100000

/-- Pieces as the cells that hold them. -/
def CQ (l : List (Nat × Nat × Bool)) : List Value := l.flatMap fun p => [.int .u8 p.1, .int .u8 p.2.1, .bool p.2.2]
theorem CQ_get {l : List (Nat × Nat × Bool)} {k : Nat} {x : Nat × Nat × Bool} (h : l[k]? = some x) : (CQ l)[k * 3]? = some (.int .u8 x.1) ∧ (CQ l)[k * 3 + 1]? = some (.int .u8 x.2.1) ∧ (CQ l)[k * 3 + 2]? = some (.bool x.2.2) := by
  induction l generalizing k with
  | nil => simp at h
  | cons y l ih =>
    match k, h with
    | 0, h => simp at h; subst h; exact ⟨rfl, rfl, rfl⟩
    | k + 1, h =>
      have := ih (k := k) (by simpa using h)
      have e1 : (k + 1) * 3 = k * 3 + 3 := by omega
      rw [e1]
      exact this
theorem CQ_length (l : List (Nat × Nat × Bool)) : (CQ l).length = 3 * l.length := by
  induction l with
  | nil => rfl
  | cons x l ih => simp only [CQ, List.flatMap_cons, List.length_append, List.length_cons, List.length_nil] at ih ⊢; omega
theorem rdQ {w : World} {A : Option Addr} {l : List (Nat × Nat × Bool)} {k : Nat} {x : Nat × Nat × Bool} (h : Rd w A (CQ l)) (hx : l[k]? = some x) : ∃ b o, A = some ⟨b, o, none⟩ ∧ w.cell? ⟨b, o + k * 3, none⟩ = some (.int .u8 x.1) ∧ w.cell? ⟨b, o + k * 3 + 1, none⟩ = some (.int .u8 x.2.1) ∧ w.cell? ⟨b, o + k * 3 + 2, none⟩ = some (.bool x.2.2) := by
  obtain ⟨h1, h2, h3⟩ := CQ_get hx
  have hk : k < l.length := (List.getElem?_eq_some_iff.1 hx).1
  obtain ⟨b, o, rfl⟩ := rd_addr' h (by rw [CQ_length]; omega)
  have g1 := h.get h1
  have g2 := h.get h2
  have g3 := h.get h3
  rw [add_lit'] at g1 g2 g3
  exact ⟨b, o, rfl, g1, g2, g3⟩
/-- A list of pieces as an argument. -/
structure ArgQ (w : World) (A : Option Addr) (n c : Nat) (l : List (Nat × Nat × Bool)) : Prop where
  len : l.length = n
  b1 : ∀ x ∈ l, x.1 < 256 ∧ x.2.1 < 256
  rd : Rd w A (CQ l)
  n : n ≤ c
  c : c ≤ 9223372036854775807
def MadP (w : World) (e : Ending) (w' : World) : Prop := ∃ s : ArgS, e = .returned (.slice s.A s.n s.c) ∧ RSf 0 s.l ∧ s.n ≤ 40 ∧ NewS w w' s
set_option maxHeartbeats 4000000 in
theorem made_any (A : Option Addr) (n c : Nat) (l : List (Nat × Nat × Bool)) (w : World) (hq : ArgQ w A n c l) :
    Calls Tryz.prog 9 #[.slice A n c] w (MadP w) := by
  have HL := Lib.hid hq.len
  have HB := Lib.hid hq.b1
  have hR := hq.rd
  have hnc := hq.n
  have hcb := hq.c
  clear hq
  obtain ⟨m, hm⟩ : ∃ m, m = min n 40 := ⟨_, rfl⟩
  have hm1 : m ≤ n := by omega
  have hm2 : m ≤ 40 := by omega
  have hmi : min (n : Int) 40 = (m : Int) := by omega
  have hma : max (m : Int) 0 = (m : Int) := by omega
  have hmc : (0 : Int) ≤ (m : Int) ∧ (m : Int) ≤ (c : Int) := by omega
  have hmc2 : (m : Int) ≤ (c : Int) := by omega
  have hmc3 : (0 : Int) ≤ (m : Int) := by omega
  have HM := Lib.hid hm
  clear hm
  go_enter Tryz.func9, Tryz.ntmps9
  go_wp2
  clear hmi hma hmc
  go_loopw [3, 4, 15] (fun v at_ i wr => ∃ (k a : Nat) (S : List Sp), k ≤ m ∧ i = .int .i64 k ∧ at_ = .int .u64 a ∧ a < 4294967298 ∧ RSf 0 S ∧ nxt 0 S ≤ a ∧ SB S ∧ S.length ≤ k ∧ wr.ownsRow w.heap.size 40 2 v S.length (CS S) ∧ Fr [] w wr) (fun _ _ i _ => m - (intOf i).toNat)
  case atStart => exact ⟨0, 0, [], Nat.zero_le _, rfl, rfl, by decide, trivial, Nat.le_refl _, SB.nil, Nat.le_refl _, World.ownsRow_nil _ _ _ _, Fr.refl _ _⟩
  case round =>
    obtain ⟨k, a, S, hk, rfl, rfl, ha, hS, hx, hB, hl, ho, hF⟩ := hrel
    have HS := Lib.hid hS
    have HX := Lib.hid hx
    have HB2 := Lib.hid hB
    have HO := Lib.hid ho
    obtain ⟨vA, vc, rfl, _, _, _⟩ := own_slice ho
    clear hS hx hB ho
    by_cases hlt : k < m
    · obtain ⟨⟨gp, lg, hi⟩, hx⟩ : ∃ x, l[k]? = some x := ⟨_, List.getElem?_eq_getElem (by rw [HL.out]; omega)⟩
      have hbnd := HB.out _ (List.mem_of_getElem? hx)
      obtain ⟨bb, oo, rfl, p1, p2, p3⟩ := rdQ (hR.fr hF (by simp)) hx
      simp only at p1 p2 p3 hbnd
      have hi0 : (0 : Int) ≤ (k : Int) ∧ (k : Int) < m := by omega
      have hBX := hF.alloc (.cells #[.int .u8 gp, .int .u8 lg, .bool hi] 69)
      have hcase : ∃ a' : Nat, a ≤ a' ∧ a' < 4294967298 ∧ ((hi = true ∧ a < 4294966296 ∧ a' = 4294966296) ∨ (hi = true ∧ ¬ a < 4294966296 ∧ a' = a) ∨ (hi = false ∧ a' = a)) := by
        cases hi with
        | false => exact ⟨a, Nat.le_refl _, ha, .inr (.inr ⟨rfl, rfl⟩)⟩
        | true =>
          by_cases h : a < 4294966296
          · exact ⟨4294966296, by omega, by decide, .inl ⟨rfl, h, rfl⟩⟩
          · exact ⟨a, Nat.le_refl _, ha, .inr (.inl ⟨rfl, h, rfl⟩)⟩
      obtain ⟨a', ha1, ha2, hcs⟩ := hcase
      obtain ⟨q, hq⟩ : ∃ q, q = lg % 16 := ⟨_, rfl⟩
      obtain ⟨f, hf⟩ : ∃ f, f = a' + gp := ⟨_, rfl⟩
      obtain ⟨t, ht⟩ : ∃ t, t = f + q := ⟨_, rfl⟩
      have wq0 : (lg : Int).tmod 16 = (q : Int) := by rw [Int.tmod_eq_emod_of_nonneg (by omega)]; omega
      have wq1 : IntKind.u8.wrap (q : Int) = q := by rw [IntKind.wrap_u8]; omega
      have wq3 : IntKind.u64.wrap (q : Int) = q := by rw [IntKind.wrap_u64]; omega
      have wg : IntKind.u64.wrap (gp : Int) = gp := by rw [IntKind.wrap_u64]; omega
      have wf : IntKind.u64.wrap ((a' : Int) + gp) = f := by rw [IntKind.wrap_u64]; omega
      have wt : IntKind.u64.wrap ((f : Int) + q) = t := by rw [IntKind.wrap_u64]; omega
      have HT := Lib.hid (And.intro ha (And.intro ha1 (And.intro ha2 (And.intro hq (And.intro hf ht)))))
      have HBD := Lib.hid hbnd
      rw [show RSf 0 S = RSf 0 S from rfl] at HS
      have HSN : Hid (t < 4294967296 → RSf 0 (S ++ [(f, t)]) ∧ nxt 0 (S ++ [(f, t)]) ≤ t + 2 ∧ SB (S ++ [(f, t)]) ∧ (S ++ [(f, t)]).length ≤ k + 1) := by
        show _ → _
        intro h
        have hx' := HX.out
        refine ⟨(rsf_snoc 0 S (f, t)).2 ⟨HS.out, by show _ ≤ f; omega, by show f ≤ t; omega⟩, by rw [nxt_snoc]; exact Nat.le_refl _, HB2.out.app (SB.one (by show f < _; omega) h), by simp; omega⟩
      have hft : f ≤ t := by omega
      by_cases hend : t < 4294967296
      · have d9 : decide ((4294967296 : Int) ≤ (t : Int)) = false := decide_eq_false (by omega)
        have wf32 : IntKind.u32.wrap (f : Int) = f := by rw [IntKind.wrap_u32]; omega
        have wt32 : IntKind.u32.wrap (t : Int) = t := by rw [IntKind.wrap_u32]; omega
        have wt2 : IntKind.u64.wrap ((t : Int) + 2) = (t : Int) + 2 := by rw [IntKind.wrap_u64]; omega
        have hbx : Fr [] wr (wr.alloc (.cells #[.int .u8 gp, .int .u8 lg, .bool hi] 69)) := (Fr.refl _ _).alloc _
        have hszr := hF.size
        obtain ⟨v', w3, hr, ho3, hg3, _⟩ := app_run elS ((wr.alloc (.cells #[.int .u8 gp, .int .u8 lg, .bool hi] 69)).alloc (.cells #[.int .u32 f, .int .u32 t] 40)) w.heap.size 26 (.slice vA S.length vc) S.length (CS S) (((hbx.own HO.out (by simp)).alloc _))
          (some ⟨(wr.alloc (.cells #[.int .u8 gp, .int .u8 lg, .bool hi] 69)).heap.size, 0, none⟩) 1 1 [.int .u32 f, .int .u32 t] rfl (rd_new2 _ _ _) (by simp [Value.oneCell']) (by simp) (by unfold maxLen; omega) (by omega) (by simp; omega)
        have hF3 : Fr [] w w3 := ((hF.alloc _).alloc _).grown hg3 (fun g hgg => .inr (HO.out.lt g hgg).1)
        have hO3 : w3.ownsRow w.heap.size 40 2 v' (S ++ [(f, t)]).length (CS (S ++ [(f, t)])) := by
          rw [CS_snoc, List.length_append]; exact ho3
        have HO3 := Lib.hid hO3
        rw [World.size_alloc] at hr
        have HEND := Lib.hid hend
        have d1 : (hi = true ∧ decide ((a : Int) < 4294966296) = true ∧ (4294966296 : Int) = (a' : Int)) ∨ (hi = true ∧ decide ((a : Int) < 4294966296) = false ∧ (a : Int) = (a' : Int)) ∨ (hi = false ∧ (a : Int) = (a' : Int)) := by
          rcases hcs with ⟨h1, h2, h3⟩ | ⟨h1, h2, h3⟩ | ⟨h1, h3⟩
          · exact .inl ⟨h1, decide_eq_true (by omega), by omega⟩
          · exact .inr (.inl ⟨h1, decide_eq_false (by omega), by omega⟩)
          · exact .inr (.inr ⟨h1, by omega⟩)
        clear hx hcs ha ha1 ha2 hq hf ht hbnd hend hg3 ho3 hO3 hbx hft hl hBX
        rcases d1 with ⟨rfl, d1, e1⟩ | ⟨rfl, d1, e1⟩ | ⟨rfl, e1⟩
        all_goals
          have E1 := Lib.hid e1
          clear e1
          go_upto_region 8 with (fail)
          rw [E1.out]
          go_wp2_with (at_builtin; refine wpList_app rfl _ _ _ rfl hr rfl rfl ?_)
          go_roundw
          case rel => exact ⟨k + 1, t + 2, S ++ [(f, t)], by omega, by go_num, by go_num, by have := HEND.out; omega, (HSN.out HEND.out).1, (HSN.out HEND.out).2.1, (HSN.out HEND.out).2.2.1, (HSN.out HEND.out).2.2.2, HO3.out, hF3⟩
          case measure => simp [intOf]; omega
      · have d9 : decide ((4294967296 : Int) ≤ (t : Int)) = true := decide_eq_true (by omega)
        have hbx : Fr [] wr (wr.alloc (.cells #[.int .u8 gp, .int .u8 lg, .bool hi] 69)) := (Fr.refl _ _).alloc _
        have hO2 := hbx.own HO.out (by simp)
        have hF2 := hF.trans hbx
        have d1 : (hi = true ∧ decide ((a : Int) < 4294966296) = true ∧ (4294966296 : Int) = (a' : Int)) ∨ (hi = true ∧ decide ((a : Int) < 4294966296) = false ∧ (a : Int) = (a' : Int)) ∨ (hi = false ∧ (a : Int) = (a' : Int)) := by
          rcases hcs with ⟨h1, h2, h3⟩ | ⟨h1, h2, h3⟩ | ⟨h1, h3⟩
          · exact .inl ⟨h1, decide_eq_true (by omega), by omega⟩
          · exact .inr (.inl ⟨h1, decide_eq_false (by omega), by omega⟩)
          · exact .inr (.inr ⟨h1, by omega⟩)
        have hN : Hid (S.length ≤ 40) := by show _ ≤ _; omega
        have HO2 := Lib.hid hO2
        clear hx hcs ha ha1 ha2 hq hf ht hbnd hend hbx hft hl hO2 hBX
        rcases d1 with ⟨rfl, d1, e1⟩ | ⟨rfl, d1, e1⟩ | ⟨rfl, e1⟩
        all_goals
          have E1 := Lib.hid e1
          clear e1
          go_upto_region 8 with (fail)
          rw [E1.out]
          go_wp2
          go_ret
          exact ⟨⟨vA, S.length, vc, S⟩, rfl, HS.out, hN.out, ⟨HO2.out, rfl, HB2.out, by have := hN.out; show S.length ≤ _; omega, hF2⟩⟩
    · obtain rfl : k = m := by omega
      have hN : Hid (S.length ≤ 40) := by show _ ≤ _; omega
      clear hl
      go_wp2
      go_ret
      exact ⟨⟨vA, S.length, vc, S⟩, rfl, HS.out, hN.out, ⟨HO.out, rfl, HB2.out, by have := hN.out; show S.length ≤ _; omega, hF⟩⟩
end Go.Proofs.YtjfadoealhlccaaGreatDoor
