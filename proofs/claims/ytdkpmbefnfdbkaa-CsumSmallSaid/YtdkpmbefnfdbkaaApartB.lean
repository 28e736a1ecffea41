/- ApartBytes: the bag as a whole. -/
import Derived.Test.YtdkpmbefnfdbkaaApart
namespace Go.Proofs.Ytdkpmbefnfdbkaa
open Go.RowKit

theorem Sv_lt {w : World} {K gl ol : Nat} {V : Nat → Value} {n : Nat → Nat} (h : FlIn w K gl ol V n) : ∀ b ∈ Sv K V, b < w.heap.size := by
  intro b hb
  rw [mem_Sv] at hb
  obtain ⟨j, hj, e⟩ := hb
  obtain ⟨xs, hx⟩ := h.own j hj
  exact hx.lt e

/-- A list of slices in a row of its own is what flatBytes is given. -/
theorem FlIn.row {w w' : World} {K gl ol g c : Nat} {V : Nat → Value} {n : Nat → Nat} (h : FlIn w K gl ol V n) (hF : Fr [] w w') (hr : w'.ownsRow (w.heap.size + 1) 22 1 (.slice (some ⟨g, 0, none⟩) K c) K ((List.range K).map V)) : FlIn w' K g 0 V n := by
  have hg := (hr.lt g rfl).1
  refine ⟨h.hK, h.hn, fun j hj => (h.own j hj).imp fun xs hx => hx.fr hF (by simp), h.dis, fun j hj => ?_, fun j hj e => ?_⟩
  · rw [Nat.zero_add]
    exact own_cell hr (by simp [hj])
  · obtain ⟨xs, hx⟩ := h.own j hj
    have := hx.lt e
    omega

set_option maxRecDepth 100000 in
set_option maxHeartbeats 4000000 in
theorem bagapart_any {w : World} {K g gl cl : Nat} {V : Nat → Value} {n : Nat → Nat} (h : FlIn w K gl 0 V n) (hB : Bag w g (.slice (some ⟨gl, 0, none⟩) K cl)) (hg : g ∉ Sv K V) :
    Calls Try.prog 52 #[.pointer (some ⟨g, 0, none⟩)] w fun e w' => e = .returned (.bool true) ∧ Fr (Sv K V) w w' := by
  have H := Lib.hid h
  clear h
  have hc0 := hB.other.1
  go_enter Try.func52, Try.ntmps52
  go_wp2_with fail
  refine (nil_Ints w).mono ?_
  rintro e w1 ⟨rfl, hF⟩
  replace hB := hB.fr hF (by simp)
  clear hc0
  have hc := hB.other.2 1 (by decide) (by decide) (by decide)
  go_wp2_with fail
  refine (nil_Texts w1).mono ?_
  rintro e w2 ⟨rfl, hF2⟩
  replace hF := hF.trans hF2
  replace hB := hB.fr hF2 (by simp)
  clear hc hF2
  have hc := hB.cell
  go_wp2_with fail
  refine (flat_any (H.out.fr hF)).mono ?_
  rintro e w3 ⟨rfl, hF2⟩
  replace hF := hF.nil.trans hF2
  replace hB := hB.fr hF2 hg
  clear hc hF2
  have hc := hB.other.2 3 (by decide) (by decide) (by decide)
  go_wp2_with fail
  refine (nil_Words w3).mono ?_
  rintro e w4 ⟨rfl, hF2⟩
  replace hF := hF.trans hF2.nil
  replace hB := hB.fr hF2 (by simp)
  clear hc hF2
  have hc := hB.other.2 4 (by decide) (by decide) (by decide)
  go_wp2_with fail
  refine (nil_Keys w4).mono ?_
  rintro e w5 ⟨rfl, hF2⟩
  replace hF := hF.trans hF2.nil
  replace hB := hB.fr hF2 (by simp)
  clear hc hF2
  have hc := hB.other.2 5 (by decide) (by decide) (by decide)
  go_wp2_with fail
  refine (nil_FactsLists w5).mono ?_
  rintro e w6 ⟨rfl, hF2⟩
  replace hF := hF.trans hF2.nil
  replace hB := hB.fr hF2 (by simp)
  clear hc hF2
  have hc := hB.other.2 6 (by decide) (by decide) (by decide)
  go_wp2_with fail
  refine (nil_Prefixes w6).mono ?_
  rintro e w7 ⟨rfl, hF2⟩
  replace hF := hF.trans hF2.nil
  replace hB := hB.fr hF2 (by simp)
  clear hc hF2
  have hc := hB.other.2 7 (by decide) (by decide) (by decide)
  go_wp2_with fail
  refine (nil_Ranges w7).mono ?_
  rintro e w8 ⟨rfl, hF2⟩
  replace hF := hF.trans hF2.nil
  replace hB := hB.fr hF2 (by simp)
  clear hc hF2
  have hc := hB.other.2 8 (by decide) (by decide) (by decide)
  go_wp2_with fail
  refine (nil_Rules w8).mono ?_
  rintro e w9 ⟨rfl, hF2⟩
  replace hF := hF.trans hF2.nil
  replace hB := hB.fr hF2 (by simp)
  clear hc hF2
  have hc := hB.other.2 9 (by decide) (by decide) (by decide)
  go_wp2_with fail
  refine (nil_IntLists w9).mono ?_
  rintro e w10 ⟨rfl, hF2⟩
  replace hF := hF.trans hF2.nil
  replace hB := hB.fr hF2 (by simp)
  clear hc hF2
  have hc := hB.other.2 10 (by decide) (by decide) (by decide)
  go_wp2_with fail
  refine (nil_TextLists w10).mono ?_
  rintro e w11 ⟨rfl, hF2⟩
  replace hF := hF.trans hF2.nil
  replace hB := hB.fr hF2 (by simp)
  clear hc hF2
  have hc := hB.other.2 11 (by decide) (by decide) (by decide)
  go_wp2_with fail
  refine (nil_ByteLists w11).mono ?_
  rintro e w12 ⟨rfl, hF2⟩
  replace hF := hF.trans hF2.nil
  replace hB := hB.fr hF2 (by simp)
  clear hc hF2
  have hc := hB.other.2 12 (by decide) (by decide) (by decide)
  go_wp2_with fail
  refine (nil_RuleLists w12).mono ?_
  rintro e w13 ⟨rfl, hF2⟩
  replace hF := hF.trans hF2.nil
  replace hB := hB.fr hF2 (by simp)
  clear hc hF2
  go_wp2_with fail
  go_ret
  exact ⟨rfl, hF⟩

set_option maxRecDepth 100000 in
set_option maxHeartbeats 2000000 in
theorem apart_any {w : World} {K ga oa ca : Nat} {V : Nat → Value} {n : Nat → Nat} (h : FlIn w K ga oa V n) (hK : 0 < K) :
    Calls Try.prog 34 #[.slice (some ⟨ga, oa, none⟩) K ca] w fun e w' => e = .returned (.bool true) ∧ Fr (Sv K V) w w' := by
  have hKm := h.hK
  have H := Lib.hid h
  clear h
  go_enter Try.func34, Try.ntmps34
  go_wp2
  go_loopw [4] (fun i wr => ∃ k : Nat, k ≤ K ∧ i = .int .i64 k ∧ ∃ v, Bag wr w.heap.size v ∧ wr.ownsRow (w.heap.size + 1) 22 1 v k ((List.range k).map V) ∧ Fr [] w wr) (fun i _ => K - (intOf i).toNat)
  case atStart => exact ⟨0, Nat.zero_le _, rfl, .slice none 0 0, heap_alloc_new w _, ⟨rfl, .inl ⟨rfl, rfl⟩⟩, (Fr.refl _ _).alloc _⟩
  case round =>
    obtain ⟨k, hk, rfl, v, hB, hv, hF⟩ := hrel
    by_cases hlt : k < K
    · have hcl := H.out.cell hF.nil hlt
      obtain ⟨A, c, hVf⟩ := H.out.form hlt
      have hP := putb_any (A := A) (n := n k) (c := c) hB hv (by have := H.out.hK; omega) (by have := lt_of_block hB; omega)
      rw [← hVf] at hP
      have hVv : (List.range k).map V ++ [V k] = (List.range (k + 1)).map V := by rw [List.range_succ, List.map_append]; rfl
      rw [hVv, hVf] at hP
      rw [hVf] at hcl
      have HV := Lib.hid hv
      have hkK : (0 : Int) ≤ (k : Int) ∧ (k : Int) < (K : Int) := by omega
      clear hVv hVf hv hB
      go_wp2_with fail
      refine hP.mono ?_
      clear hP
      rintro e w1 ⟨⟨r, rfl⟩, v1, hB1, hv1, hF1⟩
      have hF2 : Fr [] w w1 := hF.trans2 hF1 (fun t ht => by
        rcases List.mem_cons.1 ht with rfl | ht
        · exact .inr (Nat.le_refl _)
        · have := (HV.out.lt t (by simpa using ht)).1
          exact .inr (by omega))
      have HB := Lib.hid hB1
      have HV1 := Lib.hid hv1
      clear hB1 hv1 hF hF1
      go_wp2_with fail
      go_roundw
      case rel => exact ⟨k + 1, by omega, by go_num, v1, HB.out, HV1.out, hF2⟩
      case measure => simp [intOf]; omega
    · obtain rfl : k = K := by omega
      obtain ⟨g, cg, rfl, -, -, -⟩ := own_some hv hK
      have hP := bagapart_any (H.out.row hF hv) hB (fun hc => by have := Sv_lt H.out _ hc; omega)
      clear hv hB
      go_wp2_with fail
      refine hP.mono ?_
      clear hP
      rintro e w1 ⟨rfl, hF1⟩
      go_wp2_with fail
      go_ret
      exact ⟨rfl, hF.nil.trans hF1⟩
end Go.Proofs.Ytdkpmbefnfdbkaa
