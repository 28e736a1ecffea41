/- The seventh closure; fault. -/
import Derived.Test.YtjpcfphmejenoaaIpf
import Derived.Laws.EntriesVeiled
namespace Go.Proofs.Ytjpcfphmejenoaa
open Go.RowKit
set_option linter.unusedVariables false
set_option maxRecDepth 100000

theorem keep7 {w W W' : World} {p : Addr} {v : Value} (hF : Fr [] W W') (h : Fr [] w W ∧ W.cell? p = some v) : Fr [] w W' ∧ W'.cell? p = some v := ⟨h.1.trans hF, hF.cell h.2 (by simp)⟩
set_option maxHeartbeats 4000000 in
theorem cl7_any {w : World} {g : Nat} {A : Option Addr} {n c : Nat} {xs : List UInt8} (h : BoxB w g A n c xs) (hn : 20 ≤ n) (hz0 : 20 ≤ szN xs) (hz : szN xs ≤ n) :
    Calls Try.prog 49 #[.pointer (some ⟨g, 0, none⟩)] w fun e w' => e = .returned (.bool (bad6 xs)) ∧ Fr [] w w' := by
  have hc := h.cell
  have cS := fun W (hW : Fr [] w W ∧ W.cell? ⟨g, 0, none⟩ = some (.slice A n c)) => size_any A n c xs W h.len (h.rd.fr hW.1 (by simp)) (by omega)
  have cT := fun W (hW : Fr [] w W ∧ W.cell? ⟨g, 0, none⟩ = some (.slice A n c)) => total_any A n c xs W h.len (h.rd.fr hW.1 (by simp)) (by omega) h.n
  have cH := fun W (hW : Fr [] w W ∧ W.cell? ⟨g, 0, none⟩ = some (.slice A n c)) => header_any A n c xs W h.len (h.rd.fr hW.1 (by simp)) h.nc h.n hn hz0 hz
  have hlo : (hdOf xs).o.length = szN xs - 20 := by
    show ((xs.take (szN xs)).drop 20).length = _
    rw [List.length_drop, List.length_take, h.len]; omega
  have cR := fun A' c' z W => right5_any (hdOf xs) A' (szN xs - 20) c' z W hlo (by have := szN_le xs; omega) (hdOf_b xs).off
  have lt := wd_lt xs 2
  have lz := szN_le xs
  have ht : totN xs = wd xs 2 := rfl
  have w1 : IntKind.i64.wrap ((totN xs : Int) - (szN xs : Int)) = (totN xs : Int) - (szN xs : Int) := IntWalk.i64_in _ (by omega)
  have HE : Hid (bad6 xs = !rightB (hdOf xs) ((totN xs : Int) - szN xs)) := rfl
  generalize bad6 xs = r at HE ⊢
  have S0 : Fr [] w w.drew ∧ w.drew.cell? ⟨g, 0, none⟩ = some (.slice A n c) := ⟨(Fr.refl _ _).drew, hc⟩
  have CS := Lib.hid cS
  have CT := Lib.hid cT
  have CH := Lib.hid cH
  have CR := Lib.hid cR
  clear h cS cT cH cR hlo ht lt lz
  go_enter Try.func49, Try.ntmps49
  go_wp2_with fail
  go_region_held3 (fun W => Fr [] w W ∧ W.cell? ⟨g, 0, none⟩ = some (.slice A n c))
    (first | exact S0 | (exact keep7 (by assumption) (by assumption)))
    (first
      | (go_at_call 29; refine (CH.out _ (by assumption)).mono ?_; rintro e W' ⟨A', c', rfl, ho, hF'⟩)
      | (go_at_call 31; refine (CT.out _ (by assumption)).mono ?_; rintro e W' ⟨rfl, hF'⟩)
      | (go_at_call 30; refine (CS.out _ (by assumption)).mono ?_; rintro e W' ⟨rfl, hF'⟩)
      | (go_at_call 12; refine (CR.out _ _ _ _).mono ?_; rintro e W' ⟨rfl, hF'⟩))
  clear S0
  go_wp2
  go_ret
  exact ⟨ret_bool HE.out.symm, And.left (by assumption)⟩

theorem ix70 (a0 b0 a1 b1 a2 b2 a3 b3 a4 b4 a5 b5 a6 b6 : Array Value) (f0 f1 f2 f3 f4 f5 f6 : Fn) (w : World) : (Instr.index 71 (.agg #[.func f0 a0 b0, .func f1 a1 b1, .func f2 a2 b2, .func f3 a3 b3, .func f4 a4 b4, .func f5 a5 b5, .func f6 a6 b6]) (.int .i64 0)).run Try.prog w = .ok (.func f0 a0 b0) w := by kernel_rfl
theorem ix71 (a0 b0 a1 b1 a2 b2 a3 b3 a4 b4 a5 b5 a6 b6 : Array Value) (f0 f1 f2 f3 f4 f5 f6 : Fn) (w : World) : (Instr.index 71 (.agg #[.func f0 a0 b0, .func f1 a1 b1, .func f2 a2 b2, .func f3 a3 b3, .func f4 a4 b4, .func f5 a5 b5, .func f6 a6 b6]) (.int .i64 1)).run Try.prog w = .ok (.func f1 a1 b1) w := by kernel_rfl
theorem ix72 (a0 b0 a1 b1 a2 b2 a3 b3 a4 b4 a5 b5 a6 b6 : Array Value) (f0 f1 f2 f3 f4 f5 f6 : Fn) (w : World) : (Instr.index 71 (.agg #[.func f0 a0 b0, .func f1 a1 b1, .func f2 a2 b2, .func f3 a3 b3, .func f4 a4 b4, .func f5 a5 b5, .func f6 a6 b6]) (.int .i64 2)).run Try.prog w = .ok (.func f2 a2 b2) w := by kernel_rfl
theorem ix73 (a0 b0 a1 b1 a2 b2 a3 b3 a4 b4 a5 b5 a6 b6 : Array Value) (f0 f1 f2 f3 f4 f5 f6 : Fn) (w : World) : (Instr.index 71 (.agg #[.func f0 a0 b0, .func f1 a1 b1, .func f2 a2 b2, .func f3 a3 b3, .func f4 a4 b4, .func f5 a5 b5, .func f6 a6 b6]) (.int .i64 3)).run Try.prog w = .ok (.func f3 a3 b3) w := by kernel_rfl
theorem ix74 (a0 b0 a1 b1 a2 b2 a3 b3 a4 b4 a5 b5 a6 b6 : Array Value) (f0 f1 f2 f3 f4 f5 f6 : Fn) (w : World) : (Instr.index 71 (.agg #[.func f0 a0 b0, .func f1 a1 b1, .func f2 a2 b2, .func f3 a3 b3, .func f4 a4 b4, .func f5 a5 b5, .func f6 a6 b6]) (.int .i64 4)).run Try.prog w = .ok (.func f4 a4 b4) w := by kernel_rfl
theorem ix75 (a0 b0 a1 b1 a2 b2 a3 b3 a4 b4 a5 b5 a6 b6 : Array Value) (f0 f1 f2 f3 f4 f5 f6 : Fn) (w : World) : (Instr.index 71 (.agg #[.func f0 a0 b0, .func f1 a1 b1, .func f2 a2 b2, .func f3 a3 b3, .func f4 a4 b4, .func f5 a5 b5, .func f6 a6 b6]) (.int .i64 5)).run Try.prog w = .ok (.func f5 a5 b5) w := by kernel_rfl
theorem ix76 (a0 b0 a1 b1 a2 b2 a3 b3 a4 b4 a5 b5 a6 b6 : Array Value) (f0 f1 f2 f3 f4 f5 f6 : Fn) (w : World) : (Instr.index 71 (.agg #[.func f0 a0 b0, .func f1 a1 b1, .func f2 a2 b2, .func f3 a3 b3, .func f4 a4 b4, .func f5 a5 b5, .func f6 a6 b6]) (.int .i64 6)).run Try.prog w = .ok (.func f6 a6 b6) w := by kernel_rfl
theorem fault_ways (xs : List UInt8) : (bad0 xs = true ∧ faultN xs = 50) ∨ (bad0 xs = false ∧ ((bad1 xs = true ∧ faultN xs = 51) ∨ (bad1 xs = false ∧ ((bad2 xs = true ∧ faultN xs = 52) ∨ (bad2 xs = false ∧ ((bad3 xs = true ∧ faultN xs = 53) ∨ (bad3 xs = false ∧
    ((bad4 xs = true ∧ faultN xs = 54) ∨ (bad4 xs = false ∧ ((bad5 xs = true ∧ faultN xs = 55) ∨ (bad5 xs = false ∧ ((bad6 xs = true ∧ faultN xs = 56) ∨ (bad6 xs = false ∧ faultN xs = 0))))))))))))) := by
  unfold faultN
  cases bad0 xs <;> cases bad1 xs <;> cases bad2 xs <;> cases bad3 xs <;> cases bad4 xs <;> cases bad5 xs <;> cases bad6 xs <;> simp

set_option maxHeartbeats 8000000 in
theorem fault_any (A : Option Addr) (n c : Nat) (xs : List UInt8) (w : World) (hl : xs.length = n) (hrd : Rd w A (B8 xs)) (hnc : n ≤ c) (hn : n ≤ 140737488351232) :
    Calls Try.prog 28 #[.slice A n c] w fun e w' => e = .returned (.int .i64 (faultN xs : Nat)) ∧ Fr [] w w' := by
  have hF0 : Fr [] w (w.alloc (.cells #[.slice A n c] 23)) := (Fr.refl _ _).alloc _
  have hB : BoxB (w.alloc (.cells #[.slice A n c] 23)) w.heap.size A n c xs := ⟨new_cell _ _ _ 0 _ rfl, hl, hrd.fr hF0 (by simp), hnc, hn⟩
  have hW := fault_ways xs
  have i0 := ix70
  have i1 := ix71
  have i2 := ix72
  have i3 := ix73
  have i4 := ix74
  have i5 := ix75
  have i6 := ix76
  have q0 : bad0 xs = false → 20 ≤ n := fun h => by simp only [bad0, decide_eq_false_iff_not] at h; omega
  have q2 : bad2 xs = false → 20 ≤ szN xs ∧ szN xs ≤ n := fun h => by simp only [bad2, decide_eq_false_iff_not] at h; omega
  generalize faultN xs = r at hW ⊢
  have Q0 := Lib.hid q0
  have Q2 := Lib.hid q2
  clear q0 q2 hl hrd
  rcases hW with ⟨h0, rfl⟩ | ⟨h0, ⟨h1, rfl⟩ | ⟨h1, ⟨h2, rfl⟩ | ⟨h2, ⟨h3, rfl⟩ | ⟨h3, ⟨h4, rfl⟩ | ⟨h4, ⟨h5, rfl⟩ | ⟨h5, ⟨h6, rfl⟩ | ⟨h6, rfl⟩⟩⟩⟩⟩⟩⟩
  · have c0 := fun W (hF : Fr [] (w.alloc (.cells #[.slice A n c] 23)) W) => cl1_any (hB.fr hF)
    rw [h0] at c0
    have C0 := Lib.hid c0
    clear c0 h0
    go_enter Try.func28, Try.ntmps28
    go_wp2_with fail
    have hF1 : Fr [] (w.alloc (.cells #[.slice A n c] 23)) ((w.alloc (.cells #[.slice A n c] 23)).alloc (.cells #[.func (.func 42) #[] #[.pointer (some ⟨w.heap.size, 0, none⟩)], .func (.func 43) #[] #[.pointer (some ⟨w.heap.size, 0, none⟩)], .func (.func 44) #[] #[.pointer (some ⟨w.heap.size, 0, none⟩)], .func (.func 45) #[] #[.pointer (some ⟨w.heap.size, 0, none⟩)], .func (.func 46) #[] #[.pointer (some ⟨w.heap.size, 0, none⟩)], .func (.func 47) #[] #[.pointer (some ⟨w.heap.size, 0, none⟩)], .func (.func 49) #[] #[.pointer (some ⟨w.heap.size, 0, none⟩)]] 71)) := (Fr.refl _ _).alloc _
    refine wp_loop_rounds 8 ?_
    rw [rounds_succ]
    go_wp2_with fail
    refine (C0.out _ hF1).mono ?_
    rintro e w1 ⟨rfl, hF2⟩
    replace hF1 := hF1.trans hF2
    clear hF2
    go_wp2_with fail
    go_ret
    exact ⟨rfl, hF0.trans hF1⟩
  · have g20 := Q0.out h0
    have c0 := fun W (hF : Fr [] (w.alloc (.cells #[.slice A n c] 23)) W) => cl1_any (hB.fr hF)
    rw [h0] at c0
    have C0 := Lib.hid c0
    have c1 := fun W (hF : Fr [] (w.alloc (.cells #[.slice A n c] 23)) W) => cl2_any (hB.fr hF) g20
    rw [h1] at c1
    have C1 := Lib.hid c1
    clear c0 c1 h0 h1
    go_enter Try.func28, Try.ntmps28
    go_wp2_with fail
    have hF1 : Fr [] (w.alloc (.cells #[.slice A n c] 23)) ((w.alloc (.cells #[.slice A n c] 23)).alloc (.cells #[.func (.func 42) #[] #[.pointer (some ⟨w.heap.size, 0, none⟩)], .func (.func 43) #[] #[.pointer (some ⟨w.heap.size, 0, none⟩)], .func (.func 44) #[] #[.pointer (some ⟨w.heap.size, 0, none⟩)], .func (.func 45) #[] #[.pointer (some ⟨w.heap.size, 0, none⟩)], .func (.func 46) #[] #[.pointer (some ⟨w.heap.size, 0, none⟩)], .func (.func 47) #[] #[.pointer (some ⟨w.heap.size, 0, none⟩)], .func (.func 49) #[] #[.pointer (some ⟨w.heap.size, 0, none⟩)]] 71)) := (Fr.refl _ _).alloc _
    refine wp_loop_rounds 8 ?_
    rw [rounds_succ]
    go_wp2_with fail
    refine (C0.out _ hF1).mono ?_
    rintro e w1 ⟨rfl, hF2⟩
    replace hF1 := hF1.trans hF2
    clear hF2
    go_wp2_with fail
    rw [rounds_succ]
    go_wp2_with fail
    refine (C1.out _ hF1).mono ?_
    rintro e w2 ⟨rfl, hF2⟩
    replace hF1 := hF1.trans hF2
    clear hF2
    go_wp2_with fail
    go_ret
    exact ⟨rfl, hF0.trans hF1⟩
  · have g20 := Q0.out h0
    have c0 := fun W (hF : Fr [] (w.alloc (.cells #[.slice A n c] 23)) W) => cl1_any (hB.fr hF)
    rw [h0] at c0
    have C0 := Lib.hid c0
    have c1 := fun W (hF : Fr [] (w.alloc (.cells #[.slice A n c] 23)) W) => cl2_any (hB.fr hF) g20
    rw [h1] at c1
    have C1 := Lib.hid c1
    have c2 := fun W (hF : Fr [] (w.alloc (.cells #[.slice A n c] 23)) W) => cl3_any (hB.fr hF) g20
    rw [h2] at c2
    have C2 := Lib.hid c2
    clear c0 c1 c2 h0 h1 h2
    go_enter Try.func28, Try.ntmps28
    go_wp2_with fail
    have hF1 : Fr [] (w.alloc (.cells #[.slice A n c] 23)) ((w.alloc (.cells #[.slice A n c] 23)).alloc (.cells #[.func (.func 42) #[] #[.pointer (some ⟨w.heap.size, 0, none⟩)], .func (.func 43) #[] #[.pointer (some ⟨w.heap.size, 0, none⟩)], .func (.func 44) #[] #[.pointer (some ⟨w.heap.size, 0, none⟩)], .func (.func 45) #[] #[.pointer (some ⟨w.heap.size, 0, none⟩)], .func (.func 46) #[] #[.pointer (some ⟨w.heap.size, 0, none⟩)], .func (.func 47) #[] #[.pointer (some ⟨w.heap.size, 0, none⟩)], .func (.func 49) #[] #[.pointer (some ⟨w.heap.size, 0, none⟩)]] 71)) := (Fr.refl _ _).alloc _
    refine wp_loop_rounds 8 ?_
    rw [rounds_succ]
    go_wp2_with fail
    refine (C0.out _ hF1).mono ?_
    rintro e w1 ⟨rfl, hF2⟩
    replace hF1 := hF1.trans hF2
    clear hF2
    go_wp2_with fail
    rw [rounds_succ]
    go_wp2_with fail
    refine (C1.out _ hF1).mono ?_
    rintro e w2 ⟨rfl, hF2⟩
    replace hF1 := hF1.trans hF2
    clear hF2
    go_wp2_with fail
    rw [rounds_succ]
    go_wp2_with fail
    refine (C2.out _ hF1).mono ?_
    rintro e w3 ⟨rfl, hF2⟩
    replace hF1 := hF1.trans hF2
    clear hF2
    go_wp2_with fail
    go_ret
    exact ⟨rfl, hF0.trans hF1⟩
  · have g20 := Q0.out h0
    have gz := Q2.out h2
    have c0 := fun W (hF : Fr [] (w.alloc (.cells #[.slice A n c] 23)) W) => cl1_any (hB.fr hF)
    rw [h0] at c0
    have C0 := Lib.hid c0
    have c1 := fun W (hF : Fr [] (w.alloc (.cells #[.slice A n c] 23)) W) => cl2_any (hB.fr hF) g20
    rw [h1] at c1
    have C1 := Lib.hid c1
    have c2 := fun W (hF : Fr [] (w.alloc (.cells #[.slice A n c] 23)) W) => cl3_any (hB.fr hF) g20
    rw [h2] at c2
    have C2 := Lib.hid c2
    have c3 := fun W (hF : Fr [] (w.alloc (.cells #[.slice A n c] 23)) W) => cl4_any (hB.fr hF) g20
    rw [h3] at c3
    have C3 := Lib.hid c3
    clear c0 c1 c2 c3 h0 h1 h2 h3
    go_enter Try.func28, Try.ntmps28
    go_wp2_with fail
    have hF1 : Fr [] (w.alloc (.cells #[.slice A n c] 23)) ((w.alloc (.cells #[.slice A n c] 23)).alloc (.cells #[.func (.func 42) #[] #[.pointer (some ⟨w.heap.size, 0, none⟩)], .func (.func 43) #[] #[.pointer (some ⟨w.heap.size, 0, none⟩)], .func (.func 44) #[] #[.pointer (some ⟨w.heap.size, 0, none⟩)], .func (.func 45) #[] #[.pointer (some ⟨w.heap.size, 0, none⟩)], .func (.func 46) #[] #[.pointer (some ⟨w.heap.size, 0, none⟩)], .func (.func 47) #[] #[.pointer (some ⟨w.heap.size, 0, none⟩)], .func (.func 49) #[] #[.pointer (some ⟨w.heap.size, 0, none⟩)]] 71)) := (Fr.refl _ _).alloc _
    refine wp_loop_rounds 8 ?_
    rw [rounds_succ]
    go_wp2_with fail
    refine (C0.out _ hF1).mono ?_
    rintro e w1 ⟨rfl, hF2⟩
    replace hF1 := hF1.trans hF2
    clear hF2
    go_wp2_with fail
    rw [rounds_succ]
    go_wp2_with fail
    refine (C1.out _ hF1).mono ?_
    rintro e w2 ⟨rfl, hF2⟩
    replace hF1 := hF1.trans hF2
    clear hF2
    go_wp2_with fail
    rw [rounds_succ]
    go_wp2_with fail
    refine (C2.out _ hF1).mono ?_
    rintro e w3 ⟨rfl, hF2⟩
    replace hF1 := hF1.trans hF2
    clear hF2
    go_wp2_with fail
    rw [rounds_succ]
    go_wp2_with fail
    refine (C3.out _ hF1).mono ?_
    rintro e w4 ⟨rfl, hF2⟩
    replace hF1 := hF1.trans hF2
    clear hF2
    go_wp2_with fail
    go_ret
    exact ⟨rfl, hF0.trans hF1⟩
  · have g20 := Q0.out h0
    have gz := Q2.out h2
    have c0 := fun W (hF : Fr [] (w.alloc (.cells #[.slice A n c] 23)) W) => cl1_any (hB.fr hF)
    rw [h0] at c0
    have C0 := Lib.hid c0
    have c1 := fun W (hF : Fr [] (w.alloc (.cells #[.slice A n c] 23)) W) => cl2_any (hB.fr hF) g20
    rw [h1] at c1
    have C1 := Lib.hid c1
    have c2 := fun W (hF : Fr [] (w.alloc (.cells #[.slice A n c] 23)) W) => cl3_any (hB.fr hF) g20
    rw [h2] at c2
    have C2 := Lib.hid c2
    have c3 := fun W (hF : Fr [] (w.alloc (.cells #[.slice A n c] 23)) W) => cl4_any (hB.fr hF) g20
    rw [h3] at c3
    have C3 := Lib.hid c3
    have c4 := fun W (hF : Fr [] (w.alloc (.cells #[.slice A n c] 23)) W) => cl5_any (hB.fr hF) g20 gz.2
    rw [h4] at c4
    have C4 := Lib.hid c4
    clear c0 c1 c2 c3 c4 h0 h1 h2 h3 h4
    go_enter Try.func28, Try.ntmps28
    go_wp2_with fail
    have hF1 : Fr [] (w.alloc (.cells #[.slice A n c] 23)) ((w.alloc (.cells #[.slice A n c] 23)).alloc (.cells #[.func (.func 42) #[] #[.pointer (some ⟨w.heap.size, 0, none⟩)], .func (.func 43) #[] #[.pointer (some ⟨w.heap.size, 0, none⟩)], .func (.func 44) #[] #[.pointer (some ⟨w.heap.size, 0, none⟩)], .func (.func 45) #[] #[.pointer (some ⟨w.heap.size, 0, none⟩)], .func (.func 46) #[] #[.pointer (some ⟨w.heap.size, 0, none⟩)], .func (.func 47) #[] #[.pointer (some ⟨w.heap.size, 0, none⟩)], .func (.func 49) #[] #[.pointer (some ⟨w.heap.size, 0, none⟩)]] 71)) := (Fr.refl _ _).alloc _
    refine wp_loop_rounds 8 ?_
    rw [rounds_succ]
    go_wp2_with fail
    refine (C0.out _ hF1).mono ?_
    rintro e w1 ⟨rfl, hF2⟩
    replace hF1 := hF1.trans hF2
    clear hF2
    go_wp2_with fail
    rw [rounds_succ]
    go_wp2_with fail
    refine (C1.out _ hF1).mono ?_
    rintro e w2 ⟨rfl, hF2⟩
    replace hF1 := hF1.trans hF2
    clear hF2
    go_wp2_with fail
    rw [rounds_succ]
    go_wp2_with fail
    refine (C2.out _ hF1).mono ?_
    rintro e w3 ⟨rfl, hF2⟩
    replace hF1 := hF1.trans hF2
    clear hF2
    go_wp2_with fail
    rw [rounds_succ]
    go_wp2_with fail
    refine (C3.out _ hF1).mono ?_
    rintro e w4 ⟨rfl, hF2⟩
    replace hF1 := hF1.trans hF2
    clear hF2
    go_wp2_with fail
    rw [rounds_succ]
    go_wp2_with fail
    refine (C4.out _ hF1).mono ?_
    rintro e w5 ⟨rfl, hF2⟩
    replace hF1 := hF1.trans hF2
    clear hF2
    go_wp2_with fail
    go_ret
    exact ⟨rfl, hF0.trans hF1⟩
  · have g20 := Q0.out h0
    have gz := Q2.out h2
    have c0 := fun W (hF : Fr [] (w.alloc (.cells #[.slice A n c] 23)) W) => cl1_any (hB.fr hF)
    rw [h0] at c0
    have C0 := Lib.hid c0
    have c1 := fun W (hF : Fr [] (w.alloc (.cells #[.slice A n c] 23)) W) => cl2_any (hB.fr hF) g20
    rw [h1] at c1
    have C1 := Lib.hid c1
    have c2 := fun W (hF : Fr [] (w.alloc (.cells #[.slice A n c] 23)) W) => cl3_any (hB.fr hF) g20
    rw [h2] at c2
    have C2 := Lib.hid c2
    have c3 := fun W (hF : Fr [] (w.alloc (.cells #[.slice A n c] 23)) W) => cl4_any (hB.fr hF) g20
    rw [h3] at c3
    have C3 := Lib.hid c3
    have c4 := fun W (hF : Fr [] (w.alloc (.cells #[.slice A n c] 23)) W) => cl5_any (hB.fr hF) g20 gz.2
    rw [h4] at c4
    have C4 := Lib.hid c4
    have c5 := fun W (hF : Fr [] (w.alloc (.cells #[.slice A n c] 23)) W) => cl6_any (hB.fr hF) g20
    rw [h5] at c5
    have C5 := Lib.hid c5
    clear c0 c1 c2 c3 c4 c5 h0 h1 h2 h3 h4 h5
    go_enter Try.func28, Try.ntmps28
    go_wp2_with fail
    have hF1 : Fr [] (w.alloc (.cells #[.slice A n c] 23)) ((w.alloc (.cells #[.slice A n c] 23)).alloc (.cells #[.func (.func 42) #[] #[.pointer (some ⟨w.heap.size, 0, none⟩)], .func (.func 43) #[] #[.pointer (some ⟨w.heap.size, 0, none⟩)], .func (.func 44) #[] #[.pointer (some ⟨w.heap.size, 0, none⟩)], .func (.func 45) #[] #[.pointer (some ⟨w.heap.size, 0, none⟩)], .func (.func 46) #[] #[.pointer (some ⟨w.heap.size, 0, none⟩)], .func (.func 47) #[] #[.pointer (some ⟨w.heap.size, 0, none⟩)], .func (.func 49) #[] #[.pointer (some ⟨w.heap.size, 0, none⟩)]] 71)) := (Fr.refl _ _).alloc _
    refine wp_loop_rounds 8 ?_
    rw [rounds_succ]
    go_wp2_with fail
    refine (C0.out _ hF1).mono ?_
    rintro e w1 ⟨rfl, hF2⟩
    replace hF1 := hF1.trans hF2
    clear hF2
    go_wp2_with fail
    rw [rounds_succ]
    go_wp2_with fail
    refine (C1.out _ hF1).mono ?_
    rintro e w2 ⟨rfl, hF2⟩
    replace hF1 := hF1.trans hF2
    clear hF2
    go_wp2_with fail
    rw [rounds_succ]
    go_wp2_with fail
    refine (C2.out _ hF1).mono ?_
    rintro e w3 ⟨rfl, hF2⟩
    replace hF1 := hF1.trans hF2
    clear hF2
    go_wp2_with fail
    rw [rounds_succ]
    go_wp2_with fail
    refine (C3.out _ hF1).mono ?_
    rintro e w4 ⟨rfl, hF2⟩
    replace hF1 := hF1.trans hF2
    clear hF2
    go_wp2_with fail
    rw [rounds_succ]
    go_wp2_with fail
    refine (C4.out _ hF1).mono ?_
    rintro e w5 ⟨rfl, hF2⟩
    replace hF1 := hF1.trans hF2
    clear hF2
    go_wp2_with fail
    rw [rounds_succ]
    go_wp2_with fail
    refine (C5.out _ hF1).mono ?_
    rintro e w6 ⟨rfl, hF2⟩
    replace hF1 := hF1.trans hF2
    clear hF2
    go_wp2_with fail
    go_ret
    exact ⟨rfl, hF0.trans hF1⟩
  · have g20 := Q0.out h0
    have gz := Q2.out h2
    have c0 := fun W (hF : Fr [] (w.alloc (.cells #[.slice A n c] 23)) W) => cl1_any (hB.fr hF)
    rw [h0] at c0
    have C0 := Lib.hid c0
    have c1 := fun W (hF : Fr [] (w.alloc (.cells #[.slice A n c] 23)) W) => cl2_any (hB.fr hF) g20
    rw [h1] at c1
    have C1 := Lib.hid c1
    have c2 := fun W (hF : Fr [] (w.alloc (.cells #[.slice A n c] 23)) W) => cl3_any (hB.fr hF) g20
    rw [h2] at c2
    have C2 := Lib.hid c2
    have c3 := fun W (hF : Fr [] (w.alloc (.cells #[.slice A n c] 23)) W) => cl4_any (hB.fr hF) g20
    rw [h3] at c3
    have C3 := Lib.hid c3
    have c4 := fun W (hF : Fr [] (w.alloc (.cells #[.slice A n c] 23)) W) => cl5_any (hB.fr hF) g20 gz.2
    rw [h4] at c4
    have C4 := Lib.hid c4
    have c5 := fun W (hF : Fr [] (w.alloc (.cells #[.slice A n c] 23)) W) => cl6_any (hB.fr hF) g20
    rw [h5] at c5
    have C5 := Lib.hid c5
    have c6 := fun W (hF : Fr [] (w.alloc (.cells #[.slice A n c] 23)) W) => cl7_any (hB.fr hF) g20 gz.1 gz.2
    rw [h6] at c6
    have C6 := Lib.hid c6
    clear c0 c1 c2 c3 c4 c5 c6 h0 h1 h2 h3 h4 h5 h6
    go_enter Try.func28, Try.ntmps28
    go_wp2_with fail
    have hF1 : Fr [] (w.alloc (.cells #[.slice A n c] 23)) ((w.alloc (.cells #[.slice A n c] 23)).alloc (.cells #[.func (.func 42) #[] #[.pointer (some ⟨w.heap.size, 0, none⟩)], .func (.func 43) #[] #[.pointer (some ⟨w.heap.size, 0, none⟩)], .func (.func 44) #[] #[.pointer (some ⟨w.heap.size, 0, none⟩)], .func (.func 45) #[] #[.pointer (some ⟨w.heap.size, 0, none⟩)], .func (.func 46) #[] #[.pointer (some ⟨w.heap.size, 0, none⟩)], .func (.func 47) #[] #[.pointer (some ⟨w.heap.size, 0, none⟩)], .func (.func 49) #[] #[.pointer (some ⟨w.heap.size, 0, none⟩)]] 71)) := (Fr.refl _ _).alloc _
    refine wp_loop_rounds 8 ?_
    rw [rounds_succ]
    go_wp2_with fail
    refine (C0.out _ hF1).mono ?_
    rintro e w1 ⟨rfl, hF2⟩
    replace hF1 := hF1.trans hF2
    clear hF2
    go_wp2_with fail
    rw [rounds_succ]
    go_wp2_with fail
    refine (C1.out _ hF1).mono ?_
    rintro e w2 ⟨rfl, hF2⟩
    replace hF1 := hF1.trans hF2
    clear hF2
    go_wp2_with fail
    rw [rounds_succ]
    go_wp2_with fail
    refine (C2.out _ hF1).mono ?_
    rintro e w3 ⟨rfl, hF2⟩
    replace hF1 := hF1.trans hF2
    clear hF2
    go_wp2_with fail
    rw [rounds_succ]
    go_wp2_with fail
    refine (C3.out _ hF1).mono ?_
    rintro e w4 ⟨rfl, hF2⟩
    replace hF1 := hF1.trans hF2
    clear hF2
    go_wp2_with fail
    rw [rounds_succ]
    go_wp2_with fail
    refine (C4.out _ hF1).mono ?_
    rintro e w5 ⟨rfl, hF2⟩
    replace hF1 := hF1.trans hF2
    clear hF2
    go_wp2_with fail
    rw [rounds_succ]
    go_wp2_with fail
    refine (C5.out _ hF1).mono ?_
    rintro e w6 ⟨rfl, hF2⟩
    replace hF1 := hF1.trans hF2
    clear hF2
    go_wp2_with fail
    rw [rounds_succ]
    go_wp2_with fail
    refine (C6.out _ hF1).mono ?_
    rintro e w7 ⟨rfl, hF2⟩
    replace hF1 := hF1.trans hF2
    clear hF2
    go_wp2_with fail
    go_ret
    exact ⟨rfl, hF0.trans hF1⟩
  · have g20 := Q0.out h0
    have gz := Q2.out h2
    have c0 := fun W (hF : Fr [] (w.alloc (.cells #[.slice A n c] 23)) W) => cl1_any (hB.fr hF)
    rw [h0] at c0
    have C0 := Lib.hid c0
    have c1 := fun W (hF : Fr [] (w.alloc (.cells #[.slice A n c] 23)) W) => cl2_any (hB.fr hF) g20
    rw [h1] at c1
    have C1 := Lib.hid c1
    have c2 := fun W (hF : Fr [] (w.alloc (.cells #[.slice A n c] 23)) W) => cl3_any (hB.fr hF) g20
    rw [h2] at c2
    have C2 := Lib.hid c2
    have c3 := fun W (hF : Fr [] (w.alloc (.cells #[.slice A n c] 23)) W) => cl4_any (hB.fr hF) g20
    rw [h3] at c3
    have C3 := Lib.hid c3
    have c4 := fun W (hF : Fr [] (w.alloc (.cells #[.slice A n c] 23)) W) => cl5_any (hB.fr hF) g20 gz.2
    rw [h4] at c4
    have C4 := Lib.hid c4
    have c5 := fun W (hF : Fr [] (w.alloc (.cells #[.slice A n c] 23)) W) => cl6_any (hB.fr hF) g20
    rw [h5] at c5
    have C5 := Lib.hid c5
    have c6 := fun W (hF : Fr [] (w.alloc (.cells #[.slice A n c] 23)) W) => cl7_any (hB.fr hF) g20 gz.1 gz.2
    rw [h6] at c6
    have C6 := Lib.hid c6
    clear c0 c1 c2 c3 c4 c5 c6 h0 h1 h2 h3 h4 h5 h6
    go_enter Try.func28, Try.ntmps28
    go_wp2_with fail
    have hF1 : Fr [] (w.alloc (.cells #[.slice A n c] 23)) ((w.alloc (.cells #[.slice A n c] 23)).alloc (.cells #[.func (.func 42) #[] #[.pointer (some ⟨w.heap.size, 0, none⟩)], .func (.func 43) #[] #[.pointer (some ⟨w.heap.size, 0, none⟩)], .func (.func 44) #[] #[.pointer (some ⟨w.heap.size, 0, none⟩)], .func (.func 45) #[] #[.pointer (some ⟨w.heap.size, 0, none⟩)], .func (.func 46) #[] #[.pointer (some ⟨w.heap.size, 0, none⟩)], .func (.func 47) #[] #[.pointer (some ⟨w.heap.size, 0, none⟩)], .func (.func 49) #[] #[.pointer (some ⟨w.heap.size, 0, none⟩)]] 71)) := (Fr.refl _ _).alloc _
    refine wp_loop_rounds 8 ?_
    rw [rounds_succ]
    go_wp2_with fail
    refine (C0.out _ hF1).mono ?_
    rintro e w1 ⟨rfl, hF2⟩
    replace hF1 := hF1.trans hF2
    clear hF2
    go_wp2_with fail
    rw [rounds_succ]
    go_wp2_with fail
    refine (C1.out _ hF1).mono ?_
    rintro e w2 ⟨rfl, hF2⟩
    replace hF1 := hF1.trans hF2
    clear hF2
    go_wp2_with fail
    rw [rounds_succ]
    go_wp2_with fail
    refine (C2.out _ hF1).mono ?_
    rintro e w3 ⟨rfl, hF2⟩
    replace hF1 := hF1.trans hF2
    clear hF2
    go_wp2_with fail
    rw [rounds_succ]
    go_wp2_with fail
    refine (C3.out _ hF1).mono ?_
    rintro e w4 ⟨rfl, hF2⟩
    replace hF1 := hF1.trans hF2
    clear hF2
    go_wp2_with fail
    rw [rounds_succ]
    go_wp2_with fail
    refine (C4.out _ hF1).mono ?_
    rintro e w5 ⟨rfl, hF2⟩
    replace hF1 := hF1.trans hF2
    clear hF2
    go_wp2_with fail
    rw [rounds_succ]
    go_wp2_with fail
    refine (C5.out _ hF1).mono ?_
    rintro e w6 ⟨rfl, hF2⟩
    replace hF1 := hF1.trans hF2
    clear hF2
    go_wp2_with fail
    rw [rounds_succ]
    go_wp2_with fail
    refine (C6.out _ hF1).mono ?_
    rintro e w7 ⟨rfl, hF2⟩
    replace hF1 := hF1.trans hF2
    clear hF2
    go_wp2_with fail
    rw [rounds_succ]
    go_wp2_with fail
    go_ret
    exact ⟨rfl, hF0.trans hF1⟩
end Go.Proofs.Ytjpcfphmejenoaa
