/- check; rest; ahead. -/
import Derived.Test.YtjfadoealhlccaaGreatDoorSpan
namespace Go.Proofs.YtjfadoealhlccaaGreatDoor
open Go.RowKit
set_option linter.unusedVariables false
set_option maxRecDepth 100000

/-- A set as an argument: where it lies, how long it is, and its spans. -/
structure ArgS where
  A : Option Addr
  n : Nat
  c : Nat
  l : List Sp
def ArgS.v (s : ArgS) : Value := .slice s.A s.n s.c
structure ArgS.Ok (s : ArgS) (w : World) : Prop where
  len : s.l.length = s.n
  sb : SB s.l
  rd : Rd w s.A (CS s.l)
  n : s.n ≤ 1000000000
  cap : s.n ≤ s.c
theorem ArgS.Ok.fr {s : ArgS} {w w' : World} (h : s.Ok w) (hF : Fr [] w w') : s.Ok w' := ⟨h.len, h.sb, h.rd.fr hF (by simp), h.n, h.cap⟩
def manyS (ls : List ArgS) : Bool := ls.any fun s => decide (4096 < s.n)
def wrongS (ls : List ArgS) : Bool := ls.any fun s => !decide (RSf 0 s.l)
def errS (ls : List ArgS) : Int := if manyS ls = true then 5 else if wrongS ls = true then 2 else 0
theorem any_take {α : Type} {p : α → Bool} {l : List α} {k : Nat} {x : α} (hx : l[k]? = some x) (h : (l.take k).any p = false) (hp : p x = false) : (l.take (k + 1)).any p = false := by
  obtain ⟨hk, e⟩ := List.getElem?_eq_some_iff.1 hx
  rw [List.take_succ_eq_append_getElem hk, List.any_append, h, e]
  simp [hp]
theorem any_get {α : Type} {p : α → Bool} {l : List α} {k : Nat} {x : α} (hx : l[k]? = some x) (hp : p x = true) : l.any p = true := List.any_eq_true.2 ⟨x, List.mem_of_getElem? hx, hp⟩
theorem rdv {w : World} {A : Option Addr} {xs : List Value} {k : Nat} {u : Value} (h : Rd w A xs) (hx : xs[k]? = some u) : ∃ b o, A = some ⟨b, o, none⟩ ∧ w.cell? ⟨b, o + k, none⟩ = some u := by
  have hk : k < xs.length := (List.getElem?_eq_some_iff.1 hx).1
  obtain ⟨b, o, rfl⟩ := rd_addr' h (by omega)
  have g1 := h.get hx
  rw [add_lit'] at g1
  exact ⟨b, o, rfl, g1⟩

set_option maxHeartbeats 1000000 in
theorem check_any (S : List ArgS) (A : Option Addr) (m c : Nat) (w : World) (hm : S.length = m) (hR : Rd w A (S.map ArgS.v)) (hS : ∀ s ∈ S, s.Ok w) (hm2 : m ≤ 1000000) :
    Calls Tryz.prog 35 #[.slice A m c] w fun e w' => e = .returned (.int .i64 (errS S)) ∧ Fr [] w w' := by
  have HL := Lib.hid hm
  have HS := Lib.hid hS
  obtain ⟨B, hB⟩ : ∃ B, B = errS S := ⟨_, rfl⟩
  rw [← hB]
  have HB := Lib.hid hB
  clear hm hS hB
  go_enter Tryz.func35, Tryz.ntmps35
  go_wp2
  go_loopw [9] (fun i wr => ∃ k : Nat, k ≤ m ∧ i = .int .i64 k ∧ manyS (S.take k) = false ∧ Fr [] w wr) (fun i _ => m - (intOf i).toNat)
  case atStart => exact ⟨0, Nat.zero_le _, rfl, rfl, Fr.refl _ _⟩
  case round =>
    obtain ⟨k, hk, rfl, hT, hF⟩ := hrel
    have HT := Lib.hid hT
    clear hT
    by_cases hlt : k < m
    · obtain ⟨s, hx⟩ : ∃ x, S[k]? = some x := ⟨_, List.getElem?_eq_getElem (by rw [HL.out]; exact hlt)⟩
      obtain ⟨bb, oo, rfl, p1⟩ := rdv (u := s.v) (hR.fr hF (by simp)) (by rw [List.getElem?_map, hx]; rfl)
      unfold ArgS.v at p1
      have hi0 : (0 : Int) ≤ (k : Int) ∧ (k : Int) < m := by omega
      have HX := Lib.hid hx
      clear hx
      obtain ⟨sA, sn, sc, sl⟩ := s
      simp only at p1
      by_cases hn : 4096 < sn
      · have d1 : decide (4096 < sn) = true := decide_eq_true hn
        have hB5 : B = 5 := by
          rw [HB.out]
          unfold errS
          rw [if_pos (show manyS S = true from any_get HX.out (decide_eq_true hn))]
        subst hB5
        go_wp2
        go_ret
        exact ⟨rfl, hF⟩
      · have d1 : decide (4096 < sn) = false := decide_eq_false hn
        go_wp2
        go_roundw
        case rel => exact ⟨k + 1, by omega, by go_num, any_take HX.out HT.out (decide_eq_false hn), hF⟩
        case measure => simp [intOf]; omega
    · obtain rfl : k = m := by omega
      have hmany : manyS S = false := by
        have := HT.out
        rwa [← HL.out, List.take_length] at this
      have HM := Lib.hid hmany
      clear hmany HT
      go_wp2
      go_loopw [19] (fun i wz => ∃ k' : Nat, k' ≤ k ∧ i = .int .i64 k' ∧ wrongS (S.take k') = false ∧ Fr [] w wz) (fun i _ => k - (intOf i).toNat)
      case atStart => exact ⟨0, Nat.zero_le _, rfl, rfl, hF⟩
      case round =>
        clear hF
        obtain ⟨j, hj, rfl, hT, hF⟩ := hrel
        have HT := Lib.hid hT
        clear hT
        by_cases hlt : j < k
        · obtain ⟨s, hx⟩ : ∃ x, S[j]? = some x := ⟨_, List.getElem?_eq_getElem (by rw [HL.out]; exact hlt)⟩
          have hok := (HS.out s (List.mem_of_getElem? hx)).fr hF
          obtain ⟨bb, oo, rfl, p1⟩ := rdv (u := s.v) (hR.fr hF (by simp)) (by rw [List.getElem?_map, hx]; rfl)
          unfold ArgS.v at p1
          have hi0 : (0 : Int) ≤ (j : Int) ∧ (j : Int) < k := by omega
          have HX := Lib.hid hx
          clear hx
          obtain ⟨sA, sn, sc, sl⟩ := s
          have cR := fun W (hW : Fr [] wr W) => rightS_any sA sn sc sl W hok.len hok.sb (hok.rd.fr hW (by simp)) (Nat.le_trans hok.n (by decide))
          simp only at p1 cR
          clear hok
          have cR := cR wr (Fr.refl _ _)
          by_cases hr : RSf 0 sl
          · rw [decide_eq_true hr] at cR
            have HR := Lib.hid hr
            clear hr
            go_wp2_with fail
            refine cR.mono ?_
            rintro e w2 ⟨rfl, hG⟩
            replace hF := hF.trans hG
            clear cR hG p1
            go_wp2_with fail
            go_roundw
            case rel => exact ⟨j + 1, by omega, by go_num, any_take HX.out HT.out (by simp [HR.out]), hF⟩
            case measure => simp [intOf]; omega
          · rw [decide_eq_false hr] at cR
            have hB2 : B = 2 := by
              rw [HB.out]
              unfold errS
              rw [if_neg (by rw [HM.out]; simp), if_pos (show wrongS S = true from any_get HX.out (by simp [hr]))]
            subst hB2
            clear hr
            go_wp2_with fail
            refine cR.mono ?_
            rintro e w2 ⟨rfl, hG⟩
            replace hF := hF.trans hG
            clear cR hG p1
            go_wp2_with fail
            go_ret
            exact ⟨rfl, hF⟩
        · obtain rfl : j = k := by omega
          have hB0 : B = 0 := by
            rw [HB.out]
            unfold errS
            have := HT.out
            rw [← HL.out, List.take_length] at this
            rw [if_neg (by rw [HM.out]; simp), if_neg (by rw [this]; simp)]
          subst hB0
          go_wp2
          go_ret
          exact ⟨rfl, hF⟩

/-- What is left: where it lies. -/
def RestP (w0 w : World) (l : List Sp) (g : Nat) (e : Ending) (w' : World) : Prop :=
  ∃ A n c, e = .returned (.slice A n c) ∧ (restS l g).length = n ∧ n ≤ c ∧ Rd w0 A (CS (restS l g)) ∧ w' = w
theorem restS_skip {x : Sp} {l : List Sp} {g : Nat} (h : x.2 < g) : restS (x :: l) g = restS l g := List.dropWhile_cons_of_pos (by simpa using h)
theorem restS_stay {x : Sp} {l : List Sp} {g : Nat} (h : ¬ x.2 < g) : restS (x :: l) g = x :: l := List.dropWhile_cons_of_neg (by simpa using h)
set_option maxHeartbeats 1000000 in
theorem rest_any (A : Option Addr) (n c g : Nat) (l : List Sp) (w0 w : World) (hl : l.length = n) (hc : n ≤ c) (hR0 : Rd w0 A (CS l)) (hR : Rd w A (CS l)) (hn : n ≤ 1000000000000) :
    Calls Tryz.prog 65 #[.slice A n c, .int .u32 g] w (RestP w0 w l g) := by
  go_enter Tryz.func65, Tryz.ntmps65
  go_wp2
  go_loopw [0] (fun v wr => ∃ (A' : Option Addr) (n' c' : Nat) (l' : List Sp), v = .slice A' n' c' ∧ l'.length = n' ∧ n' ≤ c' ∧ n' ≤ 1000000000000 ∧ Rd w A' (CS l') ∧ Rd w0 A' (CS l') ∧ restS l' g = restS l g ∧ wr = w) (fun v _ => match v with | .slice _ n _ => n | _ => 0)
  case atStart => exact ⟨A, n, c, l, rfl, hl, hc, hn, hR, hR0, rfl, rfl⟩
  case round =>
    clear hl hc hR hR0 hn
    obtain ⟨A', n', c', l', rfl, h1, h2, h3, h4, h40, h5, rfl⟩ := hrel
    cases l' with
    | nil =>
      obtain rfl : n' = 0 := by simpa using h1.symm
      have HE := Lib.hid h5
      clear h5 h1
      go_wp2
      go_ret
      refine ⟨A', 0, c', rfl, ?_, h2, ?_, rfl⟩
      · rw [← HE.out]; rfl
      · rw [← HE.out]; exact h40
    | cons x l' =>
      obtain ⟨m, rfl⟩ : ∃ m, n' = m + 1 := ⟨l'.length, by simpa using h1.symm⟩
      have hm : l'.length = m := by simpa using h1
      obtain ⟨bb, oo, rfl, p1, p2⟩ := rdS (k := 0) (x := x) h4 rfl
      have hpos : 0 < m + 1 := by omega
      have HE := Lib.hid h5
      have H1 := Lib.hid h1
      have HM := Lib.hid hm
      have hi0 : (0 : Int) < ((m + 1 : Nat) : Int) := by omega
      clear h5 h1 hm
      by_cases hx : x.2 < g
      · have d1 : decide (x.2 < g) = true := decide_eq_true hx
        have hx2 : (x.2 : Int) < g := by omega
        by_cases hc1 : c' = 1
        · subst hc1
          have hm0 : m = 0 := by omega
          subst hm0
          go_wp2
          have hl0 : l' = [] := List.eq_nil_of_length_eq_zero HM.out
          subst hl0
          exact ⟨⟨_, 0, 0, [], rfl, rfl, Nat.le_refl _, Nat.zero_le _, Rd.nil _ _, Rd.nil _ _, by rw [← HE.out, restS_skip hx], trivial⟩, Nat.zero_lt_one⟩
        · go_wp2
          have h6 := h4.drop 2
          have h7 := h40.drop 2
          rw [Option.map_some, add_lit'] at h6 h7
          exact ⟨⟨_, m, c' - 1, l', rfl, HM.out, by omega, by omega, h6, h7, by rw [← HE.out, restS_skip hx], trivial⟩, Nat.lt_succ_self m⟩
      · have d1 : decide (x.2 < g) = false := decide_eq_false hx
        have hx2 : ¬ (x.2 : Int) < g := by omega
        go_wp2
        go_ret
        have hE : restS l g = x :: l' := by rw [← HE.out]; exact restS_stay hx
        exact ⟨_, _, _, rfl, by rw [hE]; exact H1.out, h2, by rw [hE]; exact h40, rfl⟩

set_option maxHeartbeats 1000000 in
theorem ahead_any (A : Option Addr) (n c g : Nat) (l : List Sp) (w : World) (hl : l.length = n) (hs : SB l) (hg : g < 4294967296) (hR : Rd w A (CS l)) :
    Calls Tryz.prog 66 #[.slice A n c, .int .u32 g] w fun e w' => e = .returned (.tuple #[.bool (aheadS l g).1, .int .u32 ((aheadS l g).2 : Nat)]) ∧ Fr [] w w' := by
  cases l with
  | nil =>
    obtain rfl : n = 0 := by simpa using hl.symm
    show Calls Tryz.prog 66 #[.slice A 0 c, .int .u32 g] w fun e w' => e = .returned (.tuple #[.bool false, .int .u32 4294967295]) ∧ Fr [] w w'
    clear hl hs hR
    go_enter Tryz.func66, Tryz.ntmps66
    go_wp2
    go_ret2
    exact ⟨rfl, Fr.refl _ _⟩
  | cons x l =>
    obtain ⟨m, rfl⟩ : ∃ m, n = m + 1 := ⟨l.length, by simpa using hl.symm⟩
    obtain ⟨bb, oo, rfl, p1, p2⟩ := rdS (k := 0) (x := x) hR rfl
    obtain ⟨x1, x2⟩ := x
    have hb := hs (x1, x2) (by simp)
    simp only [Nat.zero_mul, Nat.add_zero] at p1 p2 hb
    have hi0 : (0 : Int) < ((m + 1 : Nat) : Int) := by omega
    have hz : (((m + 1 : Nat) : Int) == 0) = false := by rw [beq_eq_false_iff_ne]; omega
    have hz2 : ((m : Int) + 1 == 0) = false := by rw [beq_eq_false_iff_ne]; omega
    have hz3 : ¬ (m : Int) + 1 = 0 := by omega
    have P1 := xt_cell p1
    have P2 := xt_cell p2
    unfold aheadS
    simp only
    clear hl hs hR
    by_cases h : g < x1
    · rw [if_pos h]
      have d1 : decide (g < x1) = true := decide_eq_true h
      have e : IntKind.u32.wrap ((x1 : Int) - 1) = (x1 : Int) - 1 := by rw [IntKind.wrap_u32]; omega
      have hx1 : (1 : Int) ≤ x1 := by omega
      have e2 : (x1 : Int) - 1 = ((x1 - 1 : Nat) : Int) := by omega
      have HE := Lib.hid e2
      clear e2
      go_enter Tryz.func66, Tryz.ntmps66
      go_wp2
      refine wp_region_xt (by kernel_rfl) (by kernel_rfl) ?_
      repeat (go_big_quiet_step (fail))
      refine wpQuiet_nil ?_
      rintro w2 ⟨y, rfl⟩
      have hy := xt_fr y
      clear P1 P2
      go_wp2
      go_ret2
      exact ⟨by rw [← HE.out]; rfl, hy⟩
    · rw [if_neg h]
      have d1 : decide (g < x1) = false := decide_eq_false h
      go_enter Tryz.func66, Tryz.ntmps66
      go_wp2
      refine wp_region_xt (by kernel_rfl) (by kernel_rfl) ?_
      repeat (go_big_quiet_step (fail))
      refine wpQuiet_nil ?_
      rintro w2 ⟨y, rfl⟩
      have hy := xt_fr y
      clear P1 P2
      go_wp2
      go_ret2
      exact ⟨rfl, hy⟩
end Go.Proofs.YtjfadoealhlccaaGreatDoor
