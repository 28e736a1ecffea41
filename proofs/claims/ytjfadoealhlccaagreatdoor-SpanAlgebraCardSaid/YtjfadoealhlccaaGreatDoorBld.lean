/- build; the library's iterator over a slice; the loop over two sets; combine. -/
import Derived.Test.YtjfadoealhlccaaGreatDoorAdd
namespace Go.Proofs.YtjfadoealhlccaaGreatDoor
open Go.RowKit
set_option linter.unusedVariables false
set_option maxRecDepth 100000

/-- The method value that build hands on. -/
def addV (B : Nat) : Value := .func (.func 62) #[.pointer (some ⟨B, 0, none⟩)] #[]
theorem foldl_snoc (s l : List Sp) (x : Sp) : (l ++ [x]).foldl addS s = addS (l.foldl addS s) x := by simp
theorem foldl_len (s l : List Sp) : (l.foldl addS s).length ≤ s.length + l.length := by
  induction l generalizing s with
  | nil => simp
  | cons x l ih =>
    have h1 := ih (addS s x)
    have h2 := addS_len s x
    simp only [List.foldl_cons, List.length_cons]
    omega

set_option maxHeartbeats 1000000 in
/-- The iterator of slices.Values, with the builder as its body. -/
theorem valuesB (B b n c : Nat) (A : Option Addr) (l : List Sp) (W0 w : World) (hl : l.length = n) (hs : SB l) (hb : W0.cell? ⟨b, 0, none⟩ = some (.slice A n c)) (hR : Rd W0 A (CS l)) (hI : BI B [] W0 w) (hn : n ≤ 10000000000) :
    Calls Tryz.prog 63 #[addV B, .pointer (some ⟨b, 0, none⟩)] w fun e w' => (∃ v, e = .returned v) ∧ BI B (l.foldl addS []) W0 w' := by
  have hc0 := hI.fr.cell hb (by simp)
  have HL := Lib.hid hl
  have HS := Lib.hid hs
  clear hl hs
  unfold addV
  go_enter Tryz.func63, Tryz.ntmps63
  go_wp2
  go_loopw [7] (fun i wr => ∃ k : Nat, k ≤ n ∧ i = .int .i64 k ∧ BI B ((l.take k).foldl addS []) W0 wr) (fun i _ => n - (intOf i).toNat)
  case atStart => exact ⟨0, Nat.zero_le _, rfl, hI⟩
  case round =>
    clear hI hc0
    obtain ⟨k, hk, rfl, hI⟩ := hrel
    by_cases hlt : k < n
    · obtain ⟨⟨x1, x2⟩, hx⟩ : ∃ x, l[k]? = some x := ⟨_, List.getElem?_eq_getElem (by rw [HL.out]; exact hlt)⟩
      have hbnd := HS.out.get hx
      obtain ⟨bb, oo, rfl, p1, p2⟩ := rdS (hR.fr hI.fr (by simp)) hx
      simp only at p1 p2 hbnd
      have hi0 : (0 : Int) ≤ (k : Int) ∧ (k : Int) < n := by omega
      have hlen := foldl_len [] (l.take k)
      have hlen2 : (l.take k).length ≤ k := by rw [List.length_take]; omega
      simp only [List.length_nil] at hlen
      have hA := add_any B ((l.take k).foldl addS []) (x1, x2) W0 (wr.alloc (.cells #[.int .u32 x1, .int .u32 x2] 40)) (hI.fr' ((Fr.refl [] wr).alloc _)) hbnd.1 hbnd.2 (by omega)
      have hsn : (l.take (k + 1)).foldl addS [] = addS ((l.take k).foldl addS []) (x1, x2) := by
        obtain ⟨hkl, hxe⟩ := List.getElem?_eq_some_iff.1 hx
        rw [List.take_succ_eq_append_getElem hkl, hxe, foldl_snoc]
      rw [← hsn] at hA
      clear hlen hlen2 hx hsn hI hbnd
      simp only at hA
      go_wp2_with fail
      refine hA.mono ?_
      rintro e w2 ⟨rfl, hI2⟩
      clear hA p1 p2
      go_wp2_with fail
      go_roundw
      case rel => exact ⟨k + 1, by omega, by go_num, hI2⟩
      case measure => simp [intOf]; omega
    · obtain rfl : k = n := by omega
      rw [← HL.out, List.take_length] at hI
      go_wp2
      go_end0
      exact ⟨⟨_, rfl⟩, hI⟩

/-- What the loop over two sets makes of the builder's box. -/
def ChosenP (tk : Bool → Bool → Bool) (a b : List Sp) (B : Nat) (W0 : World) (e : Ending) (w' : World) : Prop :=
  (∃ v, e = .returned v) ∧ ∃ pre, Cho tk a b pre 4294967296 ∧ pre.length ≤ 2 * a.length + 2 * b.length + 1 ∧ BI B (buildS pre) W0 w'
theorem rest_len (l : List Sp) (g : Nat) : (restS l g).length ≤ l.length := (List.dropWhile_sublist _).length_le
theorem rest_sb {l : List Sp} (g : Nat) (h : SB l) : SB (restS l g) := fun x hx => h x ((List.dropWhile_sublist _).mem hx)
set_option maxHeartbeats 4000000 in
theorem chosenB (tk : Bool → Bool → Bool) (f : FuncId) (hT : ∀ p q W, Calls Tryz.prog f #[.bool p, .bool q] W fun e w' => e = .returned (.bool (tk p q)) ∧ Fr [] W w')
    (hen : ∀ args W, (callFunc f args).run Tryz.prog W = .ok (.enter f args) W)
    (B ba bb bt na ca nb cb : Nat) (A A2 : Option Addr) (a b : List Sp) (W0 w : World) (la : a.length = na) (lb : b.length = nb) (hca : na ≤ ca) (hcb : nb ≤ cb) (ra : RSf 0 a) (rb : RSf 0 b) (sa : SB a) (sb : SB b)
    (ha : W0.cell? ⟨ba, 0, none⟩ = some (.slice A na ca)) (hb : W0.cell? ⟨bb, 0, none⟩ = some (.slice A2 nb cb)) (ht : W0.cell? ⟨bt, 0, none⟩ = some (.func (.func f) #[] #[])) (hRa : Rd W0 A (CS a)) (hRb : Rd W0 A2 (CS b)) (hI : BI B [] W0 w) (hna : na ≤ 1000000000) (hnb : nb ≤ 1000000000) :
    Calls Tryz.prog 64 #[addV B, .pointer (some ⟨ba, 0, none⟩), .pointer (some ⟨bb, 0, none⟩), .pointer (some ⟨bt, 0, none⟩)] w (ChosenP tk a b B W0) := by
  have X1 := xt_cell (hI.fr.cell ha (by simp))
  have X2 := xt_cell (hI.fr.cell hb (by simp))
  have HLA := Lib.hid la
  have HLB := Lib.hid lb
  have HRA := Lib.hid ra
  have HRB := Lib.hid rb
  have HSA := Lib.hid sa
  have HSB := Lib.hid sb
  have HT := Lib.hid hT
  clear la lb ra rb sa sb ha hb hT
  unfold addV
  go_enter Tryz.func64, Tryz.ntmps64
  go_wp2_with fail
  refine wp_region_xt (by kernel_rfl) (by kernel_rfl) ?_
  repeat (go_big_quiet_step (fail))
  refine wpQuiet_nil ?_
  rintro w1 ⟨y, rfl⟩
  replace hI := hI.fr' (xt_fr y)
  clear X1 X2
  generalize xt y = w1 at hI ⊢
  go_wp2_with fail
  go_loopw [5, 6, 7] (fun v5 v6 v7 wr => ∃ (A' : Option Addr) (n' c' : Nat) (a' : List Sp) (B' : Option Addr) (m' d' : Nat) (b' : List Sp) (g : Nat) (pre : List Sp), v5 = .slice A' n' c' ∧ v6 = .slice B' m' d' ∧ v7 = .int .u32 g ∧
      a'.length = n' ∧ n' ≤ c' ∧ a'.length ≤ a.length ∧ Rd W0 A' (CS a') ∧ restS a' g = restS a g ∧ b'.length = m' ∧ m' ≤ d' ∧ b'.length ≤ b.length ∧ Rd W0 B' (CS b') ∧ restS b' g = restS b g ∧ g < 4294967296 ∧ Cho tk a b pre g ∧ ChoLen a b pre g ∧ BI B (buildS pre) W0 wr)
    (fun _ _ g _ => 4294967296 - (intOf g).toNat)
  case atStart => exact ⟨A, na, ca, a, A2, nb, cb, b, 0, [], rfl, rfl, rfl, HLA.out, hca, Nat.le_refl _, hRa, rfl, HLB.out, hcb, Nat.le_refl _, hRb, rfl, by decide, cho_start _ _ _, choLen_start _ _, hI⟩
  case round =>
    clear hI hRa hRb hca hcb
    obtain ⟨A', n', c', a', B', m', d', b', g, pre, rfl, rfl, rfl, h1, h2, h3, h4, h5, k1, k2, k3, k4, k5, hg, hC, hCL, hI⟩ := hrel
    have hna' : n' ≤ 1000000000000 := by have := HLA.out; omega
    have hnb' : m' ≤ 1000000000000 := by have := HLB.out; omega
    have cA := rest_any A' n' c' g a' W0 wr h1 h2 h4 (h4.fr hI.fr (by simp)) hna'
    have H5 := Lib.hid h5
    have K5 := Lib.hid k5
    have HC := Lib.hid hC
    have HCL := Lib.hid hCL
    clear h5 k5 hC hCL
    go_wp2_with fail
    refine cA.mono ?_
    rintro e w1 ⟨A1, n1, c1, rfl, r1, r2, r3, rfl⟩
    rw [H5.out] at r1 r3
    clear cA
    have cB := rest_any B' m' d' g b' W0 w1 k1 k2 k4 (k4.fr hI.fr (by simp)) hnb'
    clear h1 h2 h4 k1 k2 k4
    go_wp2_with fail
    refine cB.mono ?_
    rintro e w2 ⟨A2', n2, c2, rfl, s1, s2, s3, rfl⟩
    rw [K5.out] at s1 s3
    clear cB
    have aA := fun W (hW : Fr [] w2 W) => ahead_any A1 n1 c1 g (restS a g) W r1 (rest_sb g HSA.out) hg (r3.fr (hI.fr.trans hW) (by simp))
    have aB := fun W (hW : Fr [] w2 W) => ahead_any A2' n2 c2 g (restS b g) W s1 (rest_sb g HSB.out) hg (s3.fr (hI.fr.trans hW) (by simp))
    have gA := ahead_ge (s := a) hg
    have gB := ahead_ge (s := b) hg
    have lA := ahead_lt (n := g) HSA.out
    have lB := ahead_lt (n := g) HSB.out
    obtain ⟨inA, hinA⟩ : ∃ x, x = (aheadS (restS a g) g).1 := ⟨_, rfl⟩
    obtain ⟨inB, hinB⟩ : ∃ x, x = (aheadS (restS b g) g).1 := ⟨_, rfl⟩
    obtain ⟨tA, htA⟩ : ∃ x, x = (aheadS (restS a g) g).2 := ⟨_, rfl⟩
    obtain ⟨tB, htB⟩ : ∃ x, x = (aheadS (restS b g) g).2 := ⟨_, rfl⟩
    rw [← hinA, ← htA] at aA
    rw [← hinB, ← htB] at aB
    rw [← htA] at gA lA
    rw [← htB] at gB lB
    obtain ⟨t, htt⟩ : ∃ t, t = min tA tB := ⟨_, rfl⟩
    have hgt : g ≤ t := by omega
    have htl : t < 4294967296 := by omega
    have hmin : (tA ≤ tB ∧ t = tA) ∨ (¬ tA ≤ tB ∧ t = tB) := by omega
    have hRel : t = min (aheadS (restS a g) g).2 (aheadS (restS b g) g).2 := by rw [← htA, ← htB]; exact htt
    have hyes : tk inA inB = true → Cho tk a b (pre ++ [(g, t)]) (t + 1) ∧ (t < 4294967295 → ChoLen a b (pre ++ [(g, t)]) (t + 1)) := fun h => by
      rw [hinA, hinB] at h
      exact ⟨cho_yes HC.out HRA.out HRB.out HSA.out HSB.out hg hRel h, fun hl => choLen_step HCL.out HRA.out HRB.out hgt hRel hl (by simp)⟩
    have hno : tk inA inB = false → Cho tk a b pre (t + 1) ∧ (t < 4294967295 → ChoLen a b pre (t + 1)) := fun h => by
      rw [hinA, hinB] at h
      exact ⟨cho_no HC.out HRA.out HRB.out HSA.out HSB.out hg hRel h, fun hl => choLen_step HCL.out HRA.out HRB.out hgt hRel hl (Nat.le_succ _)⟩
    have hlen0 := choLen_le HCL.out
    have hbl := buildS_len pre
    have hgl := HC.out.len
    have HY := Lib.hid hyes
    have HN := Lib.hid hno
    clear hyes hno hinA hinB htA htB htt hRel
    go_wp2_with fail
    refine (aA _ (Fr.refl _ _)).mono ?_
    rintro e w3 ⟨rfl, hF3⟩
    clear aA
    go_wp2_with fail
    refine (aB _ hF3).mono ?_
    rintro e w4 ⟨rfl, hF4⟩
    clear aB
    replace hI := (hI.fr' hF3).fr' hF4
    clear hF3 hF4
    have pT := hI.fr.cell ht (by simp)
    have cT := HT.out inA inB
    have hbuild : (buildS pre).length ≤ 10000000000 := by omega
    have wt : t < 4294967295 → IntKind.u32.wrap ((t : Int) + 1) = (t : Int) + 1 := fun h => by rw [IntKind.wrap_u32]; omega
    rcases hmin with ⟨hmin, rfl⟩ | ⟨hmin, rfl⟩
    · have m1 : ¬ tB < t := Nat.not_lt.2 hmin
      have m2 : decide (t ≤ tB) = true := decide_eq_true hmin
      have m3 : decide (tB < t) = false := decide_eq_false m1
      cases hy : tk inA inB with
      | true =>
        rw [hy] at cT
        obtain ⟨hC2, hCL2⟩ := HY.out hy
        have hpl : (pre ++ [(g, t)]).length ≤ 2 * a.length + 2 * b.length + 1 := by simp; omega
        have HC2 := Lib.hid hC2
        have HCL2 := Lib.hid hCL2
        have HPL := Lib.hid hpl
        have HWT := Lib.hid wt
        clear hC2 hCL2 hpl hy HY HN hlen0 hbl hgl wt
        go_wp2_with fail
        refine (cT _).mono ?_
        rintro e w5 ⟨rfl, hF5⟩
        replace hI := hI.fr' hF5
        clear hF5 cT pT
        have cY := add_any B (buildS pre) (g, t) W0 w5 hI hg htl hbuild
        rw [← buildS_snoc] at cY
        clear hI
        simp only at cY
        go_wp2_with fail
        refine cY.mono ?_
        rintro e w6 ⟨rfl, hI⟩
        clear cY
        by_cases hm : t = 4294967295
        · have b1 : ((t : Int) == 4294967295) = true := by rw [beq_iff_eq]; omega
          have b2 : (t == 4294967295) = true := by rw [beq_iff_eq]; exact hm
          have HM := Lib.hid hm
          clear hm
          go_wp2_with fail
          go_end0
          refine ⟨⟨_, rfl⟩, (pre ++ [(g, t)]), ?_, HPL.out, hI⟩
          have h := HC2.out
          rw [show t + 1 = 4294967296 by rw [HM.out]] at h
          exact h
        · have b1 : ((t : Int) == 4294967295) = false := by rw [beq_eq_false_iff_ne]; omega
          have b2 : (t == 4294967295) = false := by rw [beq_eq_false_iff_ne]; exact hm
          have hlt : t < 4294967295 := by omega
          have hw := HWT.out hlt
          have HCL3 := Lib.hid (HCL2.out hlt)
          clear hm
          go_wp2_with fail
          go_roundw
          case rel =>
            exact ⟨A1, n1, c1, restS a g, A2', n2, c2, restS b g, t + 1, (pre ++ [(g, t)]), rfl, rfl, by go_num, r1, r2, rest_len a g, r3, rest_rest (by omega), s1, s2, rest_len b g, s3, rest_rest (by omega), by omega, HC2.out, HCL3.out, hI⟩
          case measure => simp [intOf]; omega
      | false =>
        rw [hy] at cT
        obtain ⟨hC2, hCL2⟩ := HN.out hy
        have hpl : pre.length ≤ 2 * a.length + 2 * b.length + 1 := by omega
        have HC2 := Lib.hid hC2
        have HCL2 := Lib.hid hCL2
        have HPL := Lib.hid hpl
        have HWT := Lib.hid wt
        clear hC2 hCL2 hpl hy HY HN hlen0 hbl hgl wt
        go_wp2_with fail
        refine (cT _).mono ?_
        rintro e w5 ⟨rfl, hF5⟩
        replace hI := hI.fr' hF5
        clear hF5 cT pT
        by_cases hm : t = 4294967295
        · have b1 : ((t : Int) == 4294967295) = true := by rw [beq_iff_eq]; omega
          have b2 : (t == 4294967295) = true := by rw [beq_iff_eq]; exact hm
          have HM := Lib.hid hm
          clear hm
          go_wp2_with fail
          go_end0
          refine ⟨⟨_, rfl⟩, pre, ?_, HPL.out, hI⟩
          have h := HC2.out
          rw [show t + 1 = 4294967296 by rw [HM.out]] at h
          exact h
        · have b1 : ((t : Int) == 4294967295) = false := by rw [beq_eq_false_iff_ne]; omega
          have b2 : (t == 4294967295) = false := by rw [beq_eq_false_iff_ne]; exact hm
          have hlt : t < 4294967295 := by omega
          have hw := HWT.out hlt
          have HCL3 := Lib.hid (HCL2.out hlt)
          clear hm
          go_wp2_with fail
          go_roundw
          case rel =>
            exact ⟨A1, n1, c1, restS a g, A2', n2, c2, restS b g, t + 1, pre, rfl, rfl, by go_num, r1, r2, rest_len a g, r3, rest_rest (by omega), s1, s2, rest_len b g, s3, rest_rest (by omega), by omega, HC2.out, HCL3.out, hI⟩
          case measure => simp [intOf]; omega
    · have m1 : t < tA := Nat.not_le.1 hmin
      have m2 : decide (tA ≤ t) = false := decide_eq_false hmin
      have m3 : decide (t < tA) = true := decide_eq_true m1
      cases hy : tk inA inB with
      | true =>
        rw [hy] at cT
        obtain ⟨hC2, hCL2⟩ := HY.out hy
        have hpl : (pre ++ [(g, t)]).length ≤ 2 * a.length + 2 * b.length + 1 := by simp; omega
        have HC2 := Lib.hid hC2
        have HCL2 := Lib.hid hCL2
        have HPL := Lib.hid hpl
        have HWT := Lib.hid wt
        clear hC2 hCL2 hpl hy HY HN hlen0 hbl hgl wt
        go_wp2_with fail
        refine (cT _).mono ?_
        rintro e w5 ⟨rfl, hF5⟩
        replace hI := hI.fr' hF5
        clear hF5 cT pT
        have cY := add_any B (buildS pre) (g, t) W0 w5 hI hg htl hbuild
        rw [← buildS_snoc] at cY
        clear hI
        simp only at cY
        go_wp2_with fail
        refine cY.mono ?_
        rintro e w6 ⟨rfl, hI⟩
        clear cY
        by_cases hm : t = 4294967295
        · have b1 : ((t : Int) == 4294967295) = true := by rw [beq_iff_eq]; omega
          have b2 : (t == 4294967295) = true := by rw [beq_iff_eq]; exact hm
          have HM := Lib.hid hm
          clear hm
          go_wp2_with fail
          go_end0
          refine ⟨⟨_, rfl⟩, (pre ++ [(g, t)]), ?_, HPL.out, hI⟩
          have h := HC2.out
          rw [show t + 1 = 4294967296 by rw [HM.out]] at h
          exact h
        · have b1 : ((t : Int) == 4294967295) = false := by rw [beq_eq_false_iff_ne]; omega
          have b2 : (t == 4294967295) = false := by rw [beq_eq_false_iff_ne]; exact hm
          have hlt : t < 4294967295 := by omega
          have hw := HWT.out hlt
          have HCL3 := Lib.hid (HCL2.out hlt)
          clear hm
          go_wp2_with fail
          go_roundw
          case rel =>
            exact ⟨A1, n1, c1, restS a g, A2', n2, c2, restS b g, t + 1, (pre ++ [(g, t)]), rfl, rfl, by go_num, r1, r2, rest_len a g, r3, rest_rest (by omega), s1, s2, rest_len b g, s3, rest_rest (by omega), by omega, HC2.out, HCL3.out, hI⟩
          case measure => simp [intOf]; omega
      | false =>
        rw [hy] at cT
        obtain ⟨hC2, hCL2⟩ := HN.out hy
        have hpl : pre.length ≤ 2 * a.length + 2 * b.length + 1 := by omega
        have HC2 := Lib.hid hC2
        have HCL2 := Lib.hid hCL2
        have HPL := Lib.hid hpl
        have HWT := Lib.hid wt
        clear hC2 hCL2 hpl hy HY HN hlen0 hbl hgl wt
        go_wp2_with fail
        refine (cT _).mono ?_
        rintro e w5 ⟨rfl, hF5⟩
        replace hI := hI.fr' hF5
        clear hF5 cT pT
        by_cases hm : t = 4294967295
        · have b1 : ((t : Int) == 4294967295) = true := by rw [beq_iff_eq]; omega
          have b2 : (t == 4294967295) = true := by rw [beq_iff_eq]; exact hm
          have HM := Lib.hid hm
          clear hm
          go_wp2_with fail
          go_end0
          refine ⟨⟨_, rfl⟩, pre, ?_, HPL.out, hI⟩
          have h := HC2.out
          rw [show t + 1 = 4294967296 by rw [HM.out]] at h
          exact h
        · have b1 : ((t : Int) == 4294967295) = false := by rw [beq_eq_false_iff_ne]; omega
          have b2 : (t == 4294967295) = false := by rw [beq_eq_false_iff_ne]; exact hm
          have hlt : t < 4294967295 := by omega
          have hw := HWT.out hlt
          have HCL3 := Lib.hid (HCL2.out hlt)
          clear hm
          go_wp2_with fail
          go_roundw
          case rel =>
            exact ⟨A1, n1, c1, restS a g, A2', n2, c2, restS b g, t + 1, pre, rfl, rfl, by go_num, r1, r2, rest_len a g, r3, rest_rest (by omega), s1, s2, rest_len b g, s3, rest_rest (by omega), by omega, HC2.out, HCL3.out, hI⟩
          case measure => simp [intOf]; omega
end Go.Proofs.YtjfadoealhlccaaGreatDoor
