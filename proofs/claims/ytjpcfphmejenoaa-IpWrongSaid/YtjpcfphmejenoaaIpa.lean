/- The examples of the chapter: awake. -/
import Derived.Test.YtjpcfphmejenoaaIpy
import Derived.RegionTactic
import Derived.BigRegion
namespace Go.Proofs.Ytjpcfphmejenoaa
open Go.RowKit
set_option linter.unusedVariables false
set_option maxRecDepth 100000

def exH : Hd := ⟨0, 1, false, false, 0, 64, 17, 167772161, 167772162, []⟩
def exB : List UInt8 := [69, 0, 0, 22, 0, 1, 0, 0, 64, 17, 102, 212, 10, 0, 0, 1, 10, 0, 0, 2, 7, 8]
def hopB : List UInt8 := [69, 0, 0, 22, 0, 1, 0, 0, 63, 17, 103, 212, 10, 0, 0, 1, 10, 0, 0, 2, 7, 8]
theorem exF : Fits exH 2 := ⟨⟨by decide, by decide, by decide, by decide, by decide, by decide, by decide⟩, by decide, by decide, by decide, by decide⟩
theorem exW : wrN exH [7, 8] = exB := by decide
theorem exG : Good exB := good_of (by decide)
theorem exD : hdOf exB = exH := rfl
theorem exZ : szN exB = 20 := by decide
theorem exT : totN exB = 22 := by decide
theorem exHop : wrN (hopH exH) ((exB.take 22).drop 20) = hopB := by decide
theorem exBad : faultN (exB.set 11 211) = 54 := by decide
theorem exMore : rightB { exH with mf := true } 2 = false := by decide
theorem exFar : rightB { exH with off := 65528 } 2 = false := by decide

set_option maxHeartbeats 400000 in
theorem example_any (w : World) : Calls Try.prog 21 #[] w fun e w' => e = .returned (.slice (some ⟨w.heap.size, 0, none⟩) 22 22) ∧ w' = w.alloc (.cells (B8 exB).toArray 5) := by
  go_enter Try.func21, Try.ntmps21
  go_wp2
  go_ret
  exact ⟨rfl, rfl⟩

set_option maxHeartbeats 4000000 in
theorem awake5 (w : World) : Calls Try.prog 9 #[] w fun e w' => e = .returned (.bool true) ∧ Fr [] w w' := by
  have hF0 : Fr [] w (w.alloc (.cells #[.int .u8 0, .int .u16 1, .bool false, .bool false, .int .i64 0, .int .u8 64, .int .u8 17, .int .u32 167772161, .int .u32 167772162, .slice none 0 0] 30)) := (Fr.refl _ _).alloc _
  have hB0 : BoxH (w.alloc (.cells #[.int .u8 0, .int .u16 1, .bool false, .bool false, .int .i64 0, .int .u8 64, .int .u8 17, .int .u32 167772161, .int .u32 167772162, .slice none 0 0] 30)) w.heap.size exH none 0 0 := heap_alloc_new w _
  go_enter Try.func9, Try.ntmps9
  go_wp2_with fail
  obtain ⟨wa, hwa⟩ : ∃ wa, wa = w.alloc (.cells #[.int .u8 0, .int .u16 1, .bool false, .bool false, .int .i64 0, .int .u8 64, .int .u8 17, .int .u32 167772161, .int .u32 167772162, .slice none 0 0] 30) := ⟨_, rfl⟩
  have hsa : wa.heap.size = w.heap.size + 1 := by rw [hwa]; simp
  rw [← hwa] at hF0 hB0 ⊢
  rw [← hsa]
  have HB0 := Lib.hid hB0
  clear hB0 hsa
  clear hwa
  have hlta : w.heap.size < wa.heap.size := lt_of_block HB0.out
  have cW := write_yes exH [7, 8] none (some ⟨wa.heap.size, 0, none⟩) 0 0 2 2 (wa.alloc (.cells #[.int .u8 7, .int .u8 8] 5)) rfl (Rd.nil _ _) (fun _ => rfl) rfl (rd_new wa [7, 8] 5) (by simp) exF
  rw [exW] at cW
  refine cW.mono ?_
  rintro e w1 ⟨gb, cb, rfl, o1, hF1⟩
  rw [show exB.length = 22 from rfl] at o1 ⊢
  replace hF1 : Fr [] wa w1 := ((Fr.refl _ _).alloc _).trans hF1
  clear cW
  obtain ⟨_, _, hx1, hcb, hcm, _⟩ := own_slice o1
  simp only [Value.slice.injEq, true_and] at hx1
  have hcb22 : 22 ≤ cb := by omega
  have hgb : wa.heap.size ≤ gb := by
    have := (o1.lt gb rfl).1
    simp at this; omega
  clear hx1 hcb hcm
  have cR := read_yes (some ⟨gb, 0, none⟩) 22 cb exB w1 rfl (Rd.own o1) hcb22 (by decide) exG
  unfold RdYes at cR
  rw [exD, exZ, exT] at cR
  have CR := Lib.hid cR
  have O1 := Lib.hid o1
  clear cR o1
  go_wp2_with fail
  refine CR.out.mono ?_
  rintro e w2 ⟨A', c', rfl, o2, hF2⟩
  have O1' := Lib.hid (hF2.own O1.out (by simp))
  have hF2b : Fr [] w2 (w2.alloc (.cells #[.int .u8 0, .int .u16 1, .bool false, .bool false, .int .i64 0, .int .u8 64, .int .u8 17, .int .u32 167772161, .int .u32 167772162, .slice A' 0 c'] 30)) := (Fr.refl _ _).alloc _
  have cH := hop_yes (some ⟨gb, 0, none⟩) 22 cb exB (w2.alloc (.cells #[.int .u8 0, .int .u16 1, .bool false, .bool false, .int .i64 0, .int .u8 64, .int .u8 17, .int .u32 167772161, .int .u32 167772162, .slice A' 0 c'] 30)) rfl (Rd.own (hF2b.own O1'.out (by simp))) hcb22 (by decide) exG (by rw [exD]; decide)
  rw [exD, exT, exZ, exHop] at cH
  have CH := Lib.hid cH
  have hB2 : BoxH (w2.alloc (.cells #[.int .u8 0, .int .u16 1, .bool false, .bool false, .int .i64 0, .int .u8 64, .int .u8 17, .int .u32 167772161, .int .u32 167772162, .slice A' 0 c'] 30)) w2.heap.size exH A' 0 c' := heap_alloc_new w2 _
  have HB2 := Lib.hid hB2
  clear cH hB2 CR
  show _
  unfold HV exH
  simp only
  go_wp2_with fail
  refine CH.out.mono ?_
  rintro e w3 ⟨gh, ch, rfl, o3, hF3⟩
  rw [show hopB.length = 22 from rfl] at o3 ⊢
  have hF23 := hF2b.trans hF3
  have o1 := hF23.own O1'.out (by simp)
  have o2' := hF23.own o2 (by simp)
  have cE := example_any w3
  have hFe : Fr [] w3 (w3.alloc (.cells (B8 exB).toArray 5)) := (Fr.refl _ _).alloc _
  have cS := same_any (some ⟨gb, 0, none⟩) (some ⟨w3.heap.size, 0, none⟩) 22 22 cb 22 exB exB (w3.alloc (.cells (B8 exB).toArray 5)) rfl rfl (Rd.own (hFe.own o1 (by simp))) (rd_new w3 exB 5) (by decide)
  unfold EqP at cS
  simp only [decide_true] at cS
  have CS := Lib.hid cS
  have O1b := Lib.hid o1
  have O2 := Lib.hid o2'
  have O3 := Lib.hid o3
  clear cS o1 o2 o2' o3 CH
  go_wp2_with fail
  refine cE.mono ?_
  rintro e w4 ⟨rfl, rfl⟩
  clear cE
  go_wp2_with fail
  refine CS.out.mono ?_
  rintro e w5 ⟨rfl, hS5⟩
  have hF35 := hFe.trans hS5.fr
  have hFa5 := hF1.trans (hF2.trans (hF23.trans hF35))
  have B0 := HB0.out.fr hFa5 (by simp)
  have B2 := HB2.out.fr (hF3.trans hF35) (by simp)
  have a0 := B0.c0
  have a1 := B0.c1
  have a2 := B0.c2
  have a3 := B0.c3
  have a4 := B0.c4
  have a5 := B0.c5
  have a6 := B0.c6
  have a7 := B0.c7
  have a8 := B0.c8
  have a9 := B0.c9
  have b0 := B2.c0
  have b1 := B2.c1
  have b2 := B2.c2
  have b3 := B2.c3
  have b4 := B2.c4
  have b5 := B2.c5
  have b6 := B2.c6
  have b7 := B2.c7
  have b8 := B2.c8
  have b9 := B2.c9
  have cM := same5 exH A' none 0 0 c' 0 w5 rfl rfl (Rd.own (hF35.own O2.out (by simp))) (Rd.nil _ _) (by decide)
  have CM := Lib.hid cM
  have HB0' := Lib.hid B0
  clear B0 B2 cM CS
  unfold exH at a0 a1 a2 a3 a4 a5 a6 a7 a8 b0 b1 b2 b3 b4 b5 b6 b7 b8
  simp only at a0 a1 a2 a3 a4 a5 a6 a7 a8 b0 b1 b2 b3 b4 b5 b6 b7 b8
  go_wp2_with fail
  refine CM.out.mono ?_
  rintro e w6 ⟨rfl, hF6⟩
  clear a0 a1 a2 a3 a4 a5 a6 a7 a8 a9 b0 b1 b2 b3 b4 b5 b6 b7 b8 b9 CM
  have hF36 := hF35.trans hF6
  have o3 := hF36.own O3.out (by simp)
  have h8 : w6.cell? ⟨gh, 8, none⟩ = some (.int .u8 63) := own_cell o3 (j := 8) rfl
  have h10 : w6.cell? ⟨gh, 10, none⟩ = some (.int .u8 103) := own_cell o3 (j := 10) rfl
  have h11 : w6.cell? ⟨gh, 11, none⟩ = some (.int .u8 212) := own_cell o3 (j := 11) rfl
  have o1 := hF36.own O1b.out (by simp)
  have g11 : w6.cell? ⟨gb, 11, none⟩ = some (.int .u8 212) := own_cell o1 (j := 11) rfl
  have z11 := own_fz o1 11
  have o4 := own_set o1 11 (.int .u8 211)
  rw [show (B8 exB).set 11 (.int .u8 211) = B8 (exB.set 11 211) from rfl] at o4
  have cN := read_no (some ⟨gb, 0, none⟩) 22 cb (exB.set 11 211) (w6.setCell ⟨gb, 11, none⟩ (.int .u8 211)) rfl (Rd.own o4) hcb22 (by decide) (by rw [exBad]; decide)
  unfold RdNo at cN
  rw [exBad] at cN
  have CN := Lib.hid cN
  clear cN o1 o3 o4
  go_wp2_with fail
  refine CN.out.mono ?_
  rintro e w7 ⟨rfl, hF7⟩
  have hFa6 := hFa5.trans hF6
  have hFa7 : Fr [] wa w7 := ((hFa6.setCell (p := ⟨gb, 11, none⟩) (.inr hgb) _).trans hF7)
  have B0 := HB0.out.fr hFa7 (by simp)
  have hlt7 : w.heap.size < w7.heap.size := lt_of_block B0
  have a0 := B0.c0
  have a1 := B0.c1
  have a2 := B0.c2
  have a3 := B0.c3
  have a4 := B0.c4
  have a5 := B0.c5
  have a6 := B0.c6
  have a7 := B0.c7
  have a8 := B0.c8
  have a9 := B0.c9
  clear h8 h10 h11 g11 z11 CN
  unfold exH at a0 a1 a2 a3 a4 a5 a6 a7 a8
  simp only at a0 a1 a2 a3 a4 a5 a6 a7 a8
  have hFin := hF0.trans hFa7
  clear hF0 hF1 hF2 hF2b hF3 hF23 hFe hS5 hF35 hFa5 hF6 hF36 hF7 hFa6 hFa7 O1 O1' O1b O2 O3 HB0 HB0' HB2
  go_wp2_with fail
  replace a0 := old_cell a0 (.cells #[.int .u8 0, .int .u16 0, .bool false, .bool false, .int .i64 0, .int .u8 0, .int .u8 0, .int .u32 0, .int .u32 0, .slice none 0 0] 30)
  replace a1 := old_cell a1 (.cells #[.int .u8 0, .int .u16 0, .bool false, .bool false, .int .i64 0, .int .u8 0, .int .u8 0, .int .u32 0, .int .u32 0, .slice none 0 0] 30)
  replace a2 := old_cell a2 (.cells #[.int .u8 0, .int .u16 0, .bool false, .bool false, .int .i64 0, .int .u8 0, .int .u8 0, .int .u32 0, .int .u32 0, .slice none 0 0] 30)
  replace a3 := old_cell a3 (.cells #[.int .u8 0, .int .u16 0, .bool false, .bool false, .int .i64 0, .int .u8 0, .int .u8 0, .int .u32 0, .int .u32 0, .slice none 0 0] 30)
  replace a4 := old_cell a4 (.cells #[.int .u8 0, .int .u16 0, .bool false, .bool false, .int .i64 0, .int .u8 0, .int .u8 0, .int .u32 0, .int .u32 0, .slice none 0 0] 30)
  replace a5 := old_cell a5 (.cells #[.int .u8 0, .int .u16 0, .bool false, .bool false, .int .i64 0, .int .u8 0, .int .u8 0, .int .u32 0, .int .u32 0, .slice none 0 0] 30)
  replace a6 := old_cell a6 (.cells #[.int .u8 0, .int .u16 0, .bool false, .bool false, .int .i64 0, .int .u8 0, .int .u8 0, .int .u32 0, .int .u32 0, .slice none 0 0] 30)
  replace a7 := old_cell a7 (.cells #[.int .u8 0, .int .u16 0, .bool false, .bool false, .int .i64 0, .int .u8 0, .int .u8 0, .int .u32 0, .int .u32 0, .slice none 0 0] 30)
  replace a8 := old_cell a8 (.cells #[.int .u8 0, .int .u16 0, .bool false, .bool false, .int .i64 0, .int .u8 0, .int .u8 0, .int .u32 0, .int .u32 0, .slice none 0 0] 30)
  replace a9 := old_cell a9 (.cells #[.int .u8 0, .int .u16 0, .bool false, .bool false, .int .i64 0, .int .u8 0, .int .u8 0, .int .u32 0, .int .u32 0, .slice none 0 0] 30)
  have hFin8 := hFin.alloc (.cells #[.int .u8 0, .int .u16 0, .bool false, .bool false, .int .i64 0, .int .u8 0, .int .u8 0, .int .u32 0, .int .u32 0, .slice none 0 0] 30)
  have hlt8 : w.heap.size < (w7.alloc (.cells #[.int .u8 0, .int .u16 0, .bool false, .bool false, .int .i64 0, .int .u8 0, .int .u8 0, .int .u32 0, .int .u32 0, .slice none 0 0] 30)).heap.size := by rw [World.size_alloc]; omega
  clear hFin hlt7
  generalize w7.alloc (.cells #[.int .u8 0, .int .u16 0, .bool false, .bool false, .int .i64 0, .int .u8 0, .int .u8 0, .int .u32 0, .int .u32 0, .slice none 0 0] 30) = w8 at a0 a1 a2 a3 a4 a5 a6 a7 a8 a9 hFin8 hlt8 ⊢
  have ne1 : w.heap.size ≠ w8.heap.size := by omega
  have ne2 : w.heap.size ≠ w8.heap.size + 1 := by omega
  have m1 := fun W g => write_no { exH with mf := true } none (some ⟨g, 0, none⟩) 0 0 2 2 W rfl (by decide) (by decide) exMore
  have m2 := fun W g => write_no { exH with off := 65528 } none (some ⟨g, 0, none⟩) 0 0 2 2 W rfl (by decide) (by decide) exFar
  unfold HV exH at m1 m2
  simp only at m1 m2
  have M1 := Lib.hid m1
  have M2 := Lib.hid m2
  clear m1 m2
  go_region
  · go_wp2_with fail
    refine (M1.out _ _).mono ?_
    rintro e w9 ⟨rfl, hF9⟩
    have hb0 : BoxH ((w8.alloc (.cells #[.int .u8 0, .int .u16 1, .bool false, .bool true, .int .i64 0, .int .u8 64, .int .u8 17, .int .u32 167772161, .int .u32 167772162, .slice none 0 0] 30)).alloc (.cells #[.int .u8 0, .int .u16 1, .bool false, .bool false, .int .i64 65528, .int .u8 64, .int .u8 17, .int .u32 167772161, .int .u32 167772162, .slice none 0 0] 30)) (w8.heap.size + 1) { exH with off := 65528 } none 0 0 := by have h := heap_alloc_new (w8.alloc (.cells #[.int .u8 0, .int .u16 1, .bool false, .bool true, .int .i64 0, .int .u8 64, .int .u8 17, .int .u32 167772161, .int .u32 167772162, .slice none 0 0] 30)) (.cells #[.int .u8 0, .int .u16 1, .bool false, .bool false, .int .i64 65528, .int .u8 64, .int .u8 17, .int .u32 167772161, .int .u32 167772162, .slice none 0 0] 30); rw [World.size_alloc] at h; exact h
    have hb : BoxH w9 (w8.heap.size + 1) { exH with off := 65528 } none 0 0 := hF9.blk ((((Fr.refl [] _).alloc _).drew).blk hb0 (by simp)) (by simp)
    have hFin9 := (((hFin8.alloc _).alloc _).alloc _).drew.trans hF9
    have c0 := hb.c0
    have c1 := hb.c1
    have c2 := hb.c2
    have c3 := hb.c3
    have c4 := hb.c4
    have c5 := hb.c5
    have c6 := hb.c6
    have c7 := hb.c7
    have c8 := hb.c8
    have c9 := hb.c9
    unfold exH at c0 c1 c2 c3 c4 c5 c6 c7 c8
    simp only at c0 c1 c2 c3 c4 c5 c6 c7 c8
    clear hb hb0 hF9 M1 a0 a1 a2 a3 a4 a5 a6 a7 a8 a9
    go_wp2_with fail
    refine (M2.out _ _).mono ?_
    rintro e w10 ⟨rfl, hF10⟩
    have hFin10 := (hFin9.alloc _).trans hF10
    clear hFin8 hFin9 hF10 M2 c0 c1 c2 c3 c4 c5 c6 c7 c8 c9
    go_wp2_with fail
    go_ret
    exact ⟨rfl, hFin10⟩
  · go_wp2_with fail
    refine (M1.out _ _).mono ?_
    rintro e w9 ⟨rfl, hF9⟩
    have hb0 : BoxH ((w8.alloc (.cells #[.int .u8 0, .int .u16 1, .bool false, .bool false, .int .i64 65528, .int .u8 64, .int .u8 17, .int .u32 167772161, .int .u32 167772162, .slice none 0 0] 30)).alloc (.cells #[.int .u8 0, .int .u16 1, .bool false, .bool true, .int .i64 0, .int .u8 64, .int .u8 17, .int .u32 167772161, .int .u32 167772162, .slice none 0 0] 30)) (w8.heap.size) { exH with off := 65528 } none 0 0 := ((Fr.refl [] _).alloc (.cells #[.int .u8 0, .int .u16 1, .bool false, .bool true, .int .i64 0, .int .u8 64, .int .u8 17, .int .u32 167772161, .int .u32 167772162, .slice none 0 0] 30)).blk (heap_alloc_new w8 (.cells #[.int .u8 0, .int .u16 1, .bool false, .bool false, .int .i64 65528, .int .u8 64, .int .u8 17, .int .u32 167772161, .int .u32 167772162, .slice none 0 0] 30)) (by simp)
    have hb : BoxH w9 (w8.heap.size) { exH with off := 65528 } none 0 0 := hF9.blk ((((Fr.refl [] _).alloc _).drew).blk hb0 (by simp)) (by simp)
    have hFin9 := (((hFin8.alloc _).alloc _).alloc _).drew.trans hF9
    have c0 := hb.c0
    have c1 := hb.c1
    have c2 := hb.c2
    have c3 := hb.c3
    have c4 := hb.c4
    have c5 := hb.c5
    have c6 := hb.c6
    have c7 := hb.c7
    have c8 := hb.c8
    have c9 := hb.c9
    unfold exH at c0 c1 c2 c3 c4 c5 c6 c7 c8
    simp only at c0 c1 c2 c3 c4 c5 c6 c7 c8
    clear hb hb0 hF9 M1 a0 a1 a2 a3 a4 a5 a6 a7 a8 a9
    go_wp2_with fail
    refine (M2.out _ _).mono ?_
    rintro e w10 ⟨rfl, hF10⟩
    have hFin10 := (hFin9.alloc _).trans hF10
    clear hFin8 hFin9 hF10 M2 c0 c1 c2 c3 c4 c5 c6 c7 c8 c9
    go_wp2_with fail
    go_ret
    exact ⟨rfl, hFin10⟩
end Go.Proofs.Ytjpcfphmejenoaa
