/- The prefixes that cover a set. -/
import Derived.Test.YtjfadoealhlccaaGreatDoorQry
import Derived.Test.YtjfadoealhlccaaGreatDoorLen
import Derived.Test.YtjfadoealhlccaaGreatDoorCol
namespace Go.Proofs.YtjfadoealhlccaaGreatDoor
open Go.RowKit
set_option linter.unusedVariables false
set_option maxRecDepth 100000

inductive Covs : List Sp → List (Nat × Nat) → Prop
  | nil : Covs [] []
  | snoc {l : List Sp} {x : Sp} {L C : List (Nat × Nat)} (h : Covs l L) (hC : Cov x.2 x.1 C) : Covs (l ++ [x]) (L ++ C)
theorem elP : El Tryz.prog 50 55 2 8 := .of (z := .agg #[.int .u32 0, .int .u8 0]) Tryz.underlying50 prefixInfo rfl (by decide)
theorem CP_one (l : List (Nat × Nat)) : ∀ u ∈ CP l, u.oneCell' = true := by
  intro u hu
  unfold CP at hu
  obtain ⟨p, _, hp⟩ := List.mem_flatMap.1 hu
  simp only [List.mem_cons, List.not_mem_nil, or_false] at hp
  rcases hp with rfl | rfl <;> rfl
theorem CP_app (a b : List (Nat × Nat)) : CP (a ++ b) = CP a ++ CP b := by simp [CP]
theorem own_rdP {w : World} {A : Option Addr} {base : Nat} {e : TypeId} {n c : Nat} {L : List (Nat × Nat)} (h : w.ownsRow base e 2 (.slice A n c) n (CP L)) : Rd w A (CP L) := fun j u hu => by
  rcases h.2 with ⟨hv, rfl⟩ | ⟨g, cap, cur, hv, _⟩
  · have : CP L = [] := List.eq_nil_of_length_eq_zero (by simpa using h.1)
    rw [this] at hu
    simp at hu
  · injection hv with hA
    subst hA
    exact ⟨_, rfl, h.cells (g := g) rfl j u hu⟩
theorem cover_at (f t : Nat) (C : List (Nat × Nat)) (hC : Cov t f C) (ht : t < 4294967296) (W : World) (hV : VV W) :
    Calls Tryz.prog 39 #[.int .u32 f, .int .u32 t] W fun e w' => ∃ g c, e = .returned (.tuple #[.slice (some ⟨g, 0, none⟩) C.length c, .int .i64 0]) ∧ Rd w' (some ⟨g, 0, none⟩) (CP C) ∧ Fr [] W w' := by
  refine (cover_yes f t C hC ht W hV).mono ?_
  rintro e w' ⟨v, rfl, ho, hF⟩
  have hne : C.length ≠ 0 := by cases hC <;> simp
  rcases ho.2 with ⟨_, hn⟩ | ⟨g, cap, cur, rfl, _⟩
  · exact absurd hn hne
  · exact ⟨g, cap, rfl, own_rdP ho, hF⟩
set_option maxHeartbeats 1000000 in
theorem prefixes_no (s : ArgS) (E : Int) (hE : E = errS [s]) (h0 : E ≠ 0) (w : World) (os : s.Ok w) :
    Calls Tryz.prog 21 #[.slice s.A s.n s.c] w fun e w' => e = .returned (.tuple #[.slice none 0 0, .int .i64 E]) ∧ Fr [] w w' := by
  have hF : Fr [] w (w.alloc (.cells #[.slice s.A s.n s.c] 26)) := (Fr.refl _ _).alloc _
  have hK := check_any [s] (some ⟨w.heap.size, 0, none⟩) 1 1 (w.alloc (.cells #[.slice s.A s.n s.c] 26)) rfl (rd_new2 w _ _) (by
    intro x hx
    simp only [List.mem_cons, List.not_mem_nil, or_false] at hx
    subst hx
    exact os.fr hF) (by decide)
  rw [← hE] at hK
  have b1 : (E == 0) = false := by rw [beq_eq_false_iff_ne]; exact h0
  clear hE h0
  go_enter Tryz.func21, Tryz.ntmps21
  go_wp2_with fail
  refine hK.mono ?_
  rintro e w2 ⟨rfl, hG⟩
  go_wp2_with fail
  go_ret2
  exact ⟨rfl, hF.trans hG⟩
def PrfP (l : List Sp) (w : World) (e : Ending) (w' : World) : Prop :=
  ∃ (L : List (Nat × Nat)) (v : Value), e = .returned (.tuple #[v, .int .i64 0]) ∧ Covs l L ∧ L.length ≤ 62 * l.length ∧ w'.ownsRow w.heap.size 55 2 v L.length (CP L) ∧ Fr [] w w'
set_option maxHeartbeats 1000000 in
theorem prefixes_yes (s : ArgS) (h0 : errS [s] = 0) (w : World) (os : s.Ok w) (hV : VV w) :
    Calls Tryz.prog 21 #[.slice s.A s.n s.c] w (PrfP s.l w) := by
  have hF : Fr [] w (w.alloc (.cells #[.slice s.A s.n s.c] 26)) := (Fr.refl _ _).alloc _
  have hK := check_any [s] (some ⟨w.heap.size, 0, none⟩) 1 1 (w.alloc (.cells #[.slice s.A s.n s.c] 26)) rfl (rd_new2 w _ _) (by
    intro x hx
    simp only [List.mem_cons, List.not_mem_nil, or_false] at hx
    subst hx
    exact os.fr hF) (by decide)
  rw [h0] at hK
  have hn := (errS_zero h0 s (by simp)).1
  have HZ := Lib.hid (errS_zero h0 s (by simp)).2
  clear h0
  obtain ⟨A, n, c, l⟩ := s
  have hR := os.rd
  have HL := Lib.hid os.len
  have HS := Lib.hid os.sb
  simp only at hR HL HS HZ hK hn ⊢
  clear os
  go_enter Tryz.func21, Tryz.ntmps21
  go_wp2_with fail
  refine hK.mono ?_
  rintro e w2 ⟨rfl, hG⟩
  replace hF := hF.trans hG
  clear hK hG
  go_wp2
  go_loopw [5, 18] (fun v5 i wr => ∃ (k : Nat) (L : List (Nat × Nat)), k ≤ n ∧ i = .int .i64 k ∧ Covs (l.take k) L ∧ L.length ≤ 62 * k ∧ wr.ownsRow w.heap.size 55 2 v5 L.length (CP L) ∧ Fr [] w wr) (fun _ i _ => n - (intOf i).toNat)
  case atStart => exact ⟨0, [], Nat.zero_le _, rfl, .nil, Nat.zero_le _, World.ownsRow_nil _ _ _ _, hF⟩
  case round =>
    clear hF
    obtain ⟨k, L, hk, rfl, hCs, hLn, hown, hF⟩ := hrel
    have HC := Lib.hid hCs
    have HLn := Lib.hid hLn
    have HO := Lib.hid hown
    clear hCs hLn hown
    by_cases hlt : k < n
    · obtain ⟨⟨x1, x2⟩, hx⟩ : ∃ x, l[k]? = some x := ⟨_, List.getElem?_eq_getElem (by rw [HL.out]; exact hlt)⟩
      have hbnd := HS.out.get hx
      have hle := rsf_at HZ.out (x1, x2) (List.mem_of_getElem? hx)
      obtain ⟨bb, oo, rfl, p1, p2⟩ := rdS (hR.fr hF (by simp)) hx
      simp only at p1 p2 hbnd hle
      obtain ⟨C, hC⟩ := cov_ex (t := x2) hbnd.2 (x2 - x1 + 1) x1 hle (by omega)
      have h62 := cov_62 hC hbnd.2
      have hi0 : (0 : Int) ≤ (k : Int) ∧ (k : Int) < n := by omega
      have hF2 := hF.alloc (.cells #[.int .u32 x1, .int .u32 x2] 40)
      have cT := cover_at x1 x2 C hC hbnd.2 _ (hV.fr hF2)
      have HX := Lib.hid hx
      have HCC := Lib.hid hC
      have H62 := Lib.hid h62
      clear hx hC h62 hle
      go_wp2_with fail
      refine cT.mono ?_
      rintro e w5 ⟨g, cc, rfl, hrd, hG⟩
      have hF3 := hF2.trans hG
      obtain ⟨v', w6, hr, ho6, hg6, -⟩ := app_run elP w5 w.heap.size 50 _ L.length (CP L) (hG.own (HO.out.alloc _) (by simp)) (some ⟨g, 0, none⟩) C.length cc (CP C) (by rw [CP_length]; omega) hrd (CP_one C) (by simp) (by have := HLn.out; have := H62.out; simp only [maxLen]; omega) (by have := HLn.out; have := H62.out; omega) hF3.size
      have hF4 : Fr [] w w6 := hF3.trans2 (fr_grown hg6) (fun t ht => .inr (by
        have hb := (HO.out.lt t (by simpa using ht)).1
        exact hb))
      have HO6 := Lib.hid ho6
      have HCS : Covs (l.take (k + 1)) (L ++ C) := by
        rw [take_snoc HX.out]
        exact .snoc HC.out HCC.out
      have HCS2 := Lib.hid HCS
      clear HCS ho6 hg6 cT hrd
      go_wp2_with (at_builtin; refine wpList_app rfl _ _ _ rfl hr rfl rfl ?_)
      refine ⟨⟨k + 1, L ++ C, by omega, by go_num, HCS2.out, ?_, ?_, hF4⟩, by simp [intOf]; omega⟩
      · have := HLn.out
        have := H62.out
        rw [List.length_append]
        omega
      · rw [List.length_append, CP_app]
        exact HO6.out
    · obtain rfl : k = n := by omega
      have hh := HC.out
      rw [← HL.out, List.take_length] at hh
      have HH := Lib.hid hh
      clear hh
      go_wp2
      go_ret2
      exact ⟨L, _, rfl, HH.out, by rw [HL.out]; exact HLn.out, HO.out, hF⟩
end Go.Proofs.YtjfadoealhlccaaGreatDoor
