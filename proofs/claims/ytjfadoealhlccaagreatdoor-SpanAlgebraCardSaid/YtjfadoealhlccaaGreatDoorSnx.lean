/- SpanNext. -/
import Derived.Test.YtjfadoealhlccaaGreatDoorMad
namespace Go.Proofs.YtjfadoealhlccaaGreatDoor
open Go.RowKit
set_option linter.unusedVariables false
set_option maxRecDepth 100000

theorem ArgQ.fr {w w' : World} {A : Option Addr} {n c : Nat} {l : List (Nat × Nat × Bool)} (h : ArgQ w A n c l) (hF : Fr [] w w') : ArgQ w' A n c l := ⟨h.len, h.b1, h.rd.fr hF (by simp), h.n, h.c⟩
theorem lastS {l : List Sp} {n : Nat} (hl : l.length = n) (hn : 0 < n) : ∃ x, l[n - 1]? = some x := ⟨_, List.getElem?_eq_getElem (by omega)⟩
theorem has_get {l : List Sp} {k : Nat} {x : Sp} (h : l[k]? = some x) (hr : x.1 ≤ x.2) : hasS l x.2 := ⟨x, List.mem_of_getElem? h, hr, Nat.le_refl _⟩
theorem gap_none {l r : List Sp} {g v : Nat} (hN : ∀ m, g ≤ m → m < v → ¬ hasS l m) (hv : g < v) (hC : Comb (fun p q => p && q) l [(g, v - 1)] r) : r = [] := by
  refine rsf_uniq (b := 0) (c := 0) hC.rs trivial fun m => ?_
  rw [hC.has]
  simp only [tkS, hasS_nil, iff_false, not_and, Bool.and_eq_true, decide_eq_true_eq]
  intro _ h1 h2
  have := (hasS_one _ _).1 h2
  simp only at this
  exact hN m (by omega) (by omega) h1

set_option maxHeartbeats 8000000 in
theorem snext_any (A : Option Addr) (n c : Nat) (l : List (Nat × Nat × Bool)) (g : Nat) (w : World) (hV : VV w) (hq : ArgQ w A n c l) (hg : g < 4294967296) :
    Calls Tryz.prog 6 #[.slice A n c, .int .u32 g] w fun e w' => e = .returned (.bool true) ∧ Fr [] w w' := by
  have HQ := Lib.hid hq
  have HG := Lib.hid hg
  clear hq
  go_enter Tryz.func6, Tryz.ntmps6
  go_wp2_with fail
  refine (awake_any w hV).mono ?_
  rintro e w1 ⟨rfl, hF⟩
  clear hV hg
  go_wp2_with fail
  refine (made_any A n c l w1 (HQ.out.fr hF)).mono ?_
  rintro e w2 ⟨s, rfl, hR, hn, hS⟩
  replace hF := hF.trans hS.fr
  have os := hS.ok
  clear hS HQ
  go_wp2_with fail
  refine (next_any s g HG.out w2 os).mono ?_
  rintro e w3 ⟨v, b, rfl, hN, hv, hF3⟩
  replace hF := hF.trans hF3
  replace os := os.fr hF3
  clear hF3
  obtain ⟨sA, sn, sc, sl⟩ := s
  simp only at hR hn hN os ⊢
  have HL : Hid (sl.length = sn) := os.len
  have HR := Lib.hid hR
  have HV := Lib.hid hv
  rcases hN with ⟨rfl, h1, h2, h3⟩ | ⟨rfl, rfl, h3⟩
  · have cH := fun W (hW : Fr [] w3 W) => hasS_any ⟨sA, sn, sc, sl⟩ v W (os.fr hW)
    have cN := fun W (hW : Fr [] w3 W) => hasS_any ⟨sA, sn, sc, sl⟩ g W (os.fr hW)
    simp only [h2, decide_true] at cH
    simp only at cN
    have d1 : decide ((v : Int) < (g : Int)) = false := decide_eq_false (by omega)
    have d1' : decide (v < g) = false := decide_eq_false (by omega)
    by_cases hlt : g < v
    · have d2 : decide ((g : Int) < (v : Int)) = true := decide_eq_true (by omega)
      have d2' : decide (g < v) = true := decide_eq_true (by omega)
      have hng := h3 g (Nat.le_refl _) hlt
      simp only [hng, decide_false] at cN
      have H3 := Lib.hid h3
      have CH := Lib.hid cH
      have CN := Lib.hid cN
      have HLT := Lib.hid hlt
      have OS := Lib.hid os
      have wv : IntKind.u32.wrap ((v : Int) - 1) = ((v - 1 : Nat) : Int) := by rw [IntKind.wrap_u32]; omega
      clear h1 h2 h3 hng cH cN hlt os hR hv
      go_wp2_with fail
      refine (CH.out w3 (Fr.refl _ _)).mono ?_
      rintro e w4 ⟨rfl, hF4⟩
      go_wp2_with fail
      refine (CN.out w4 hF4).mono ?_
      rintro e w5 ⟨rfl, hF5⟩
      replace hF4 := hF4.trans hF5
      clear hF5
      have os5 := OS.out.fr hF4
      have cC := common_yes ⟨sA, sn, sc, sl⟩ ⟨some ⟨w5.heap.size, 0, none⟩, 1, 1, [(g, v - 1)]⟩ (errS_ok (by
        intro s hs
        simp only [List.mem_cons, List.not_mem_nil, or_false] at hs
        have hlt := HLT.out
        rcases hs with rfl | rfl
        · exact ⟨by show sn ≤ 4096; omega, HR.out⟩
        · exact ⟨by show 1 ≤ 4096; decide, by refine ⟨Nat.zero_le _, ?_, trivial⟩; show g ≤ v - 1; omega⟩)) (w5.alloc (.cells #[.int .u32 g, .int .u32 (v - 1 : Nat)] 40)) (os5.fr ((Fr.refl _ _).alloc _))
        ⟨rfl, SB.one HG.out (by have := HV.out; show v - 1 < _; omega), by have h := rd_new2 w5 [.int .u32 g, .int .u32 (v - 1 : Nat)] 40; exact h, by show 1 ≤ 1000000000; decide, Nat.le_refl _⟩
      have CC := Lib.hid cC
      clear cC os5
      go_wp2_with fail
      refine CC.out.mono ?_
      rintro e w6 ⟨r, rfl, hC, -, hS6⟩
      have hr0 : r.n = 0 := by
        rw [← hS6.len, gap_none H3.out HLT.out hC]; rfl
      have hF6 := hS6.fr
      obtain ⟨rA, rn, rc, rl⟩ := r
      simp only at hr0
      subst hr0
      clear CC hC hS6
      go_wp2_with fail
      go_ret
      exact ⟨rfl, hF.trans (hF4.trans (((Fr.refl _ _).alloc _).trans hF6))⟩
    · obtain rfl : v = g := by omega
      have d2 : decide ((v : Int) < (v : Int)) = false := decide_eq_false (by omega)
      have CH := Lib.hid cH
      clear h1 h2 h3 cH cN hlt os hR hv d1 d1'
      go_wp2_with fail
      refine (CH.out w3 (Fr.refl _ _)).mono ?_
      rintro e w4 ⟨rfl, hF4⟩
      go_wp2_with fail
      go_ret
      exact ⟨rfl, hF.trans hF4⟩
  · rcases Nat.eq_zero_or_pos sn with h0 | h0
    · subst h0
      clear h3 os hR hv
      go_wp2_with fail
      go_ret
      exact ⟨rfl, hF⟩
    · obtain ⟨⟨x1, x2⟩, hx⟩ := lastS HL.out h0
      have hb := os.sb.get hx
      have hx12 : x1 ≤ x2 := rsf_at HR.out _ (List.mem_of_getElem? hx)
      have hlt : x2 < g := by
        rcases Nat.lt_or_ge x2 g with h | h
        · exact h
        · exact absurd (has_get hx hx12) (h3 _ h)
      obtain ⟨bb, oo, rfl, p1, p2⟩ := rdS os.rd hx
      simp only at p1 p2 hb
      have hne : ((sn : Int) == 0) = false := by rw [beq_eq_false_iff_ne]; omega
      have wl : IntKind.i64.wrap ((sn : Int) - 1) = ((sn - 1 : Nat) : Int) := by rw [IntWalk.i64_in _ (by omega)]; omega
      have hi0 : (0 : Int) ≤ ((sn - 1 : Nat) : Int) ∧ ((sn - 1 : Nat) : Int) < (sn : Int) := by omega
      have d2 : decide ((x2 : Int) < (g : Int)) = true := decide_eq_true (by omega)
      have d2' : decide (x2 < g) = true := decide_eq_true (by omega)
      clear h3 os hR hv hx hb hx12 hlt
      generalize sn - 1 = k at *
      go_wp2_with fail
      go_ret
      exact ⟨rfl, hF⟩
end Go.Proofs.YtjfadoealhlccaaGreatDoor
