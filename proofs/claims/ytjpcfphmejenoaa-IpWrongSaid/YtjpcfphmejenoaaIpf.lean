/- The seven closures of fault. -/
import Derived.Test.YtjpcfphmejenoaaIph
namespace Go.Proofs.Ytjpcfphmejenoaa
open Go.RowKit
set_option linter.unusedVariables false
set_option maxRecDepth 100000

/-- The bytes in the box. -/
structure BoxB (w : World) (g : Nat) (A : Option Addr) (n c : Nat) (xs : List UInt8) : Prop where
  cell : w.cell? ⟨g, 0, none⟩ = some (.slice A n c)
  len : xs.length = n
  rd : Rd w A (B8 xs)
  nc : n ≤ c
  n : n ≤ 140737488351232
theorem BoxB.fr {w w' : World} {g : Nat} {A : Option Addr} {n c : Nat} {xs : List UInt8} (h : BoxB w g A n c xs) (hF : Fr [] w w') : BoxB w' g A n c xs :=
  ⟨hF.cell h.cell (by simp), h.len, h.rd.fr hF (by simp), h.nc, h.n⟩

theorem cl1_any {w : World} {g : Nat} {A : Option Addr} {n c : Nat} {xs : List UInt8} (h : BoxB w g A n c xs) :
    Calls Try.prog 42 #[.pointer (some ⟨g, 0, none⟩)] w fun e w' => e = .returned (.bool (bad0 xs)) ∧ Fr [] w w' := by
  have hc := h.cell
  obtain ⟨b, hb⟩ : ∃ b, b = bad0 xs := ⟨_, rfl⟩
  have hd : decide ((n : Int) < 20) = b := by
    rw [hb, ← h.len]; unfold bad0; rw [decide_eq_decide]; omega
  rw [← hb]
  clear h hb
  go_enter Try.func42, Try.ntmps42
  go_wp2
  go_ret
  exact ⟨rfl, Fr.refl _ _⟩

theorem cl2_any {w : World} {g : Nat} {A : Option Addr} {n c : Nat} {xs : List UInt8} (h : BoxB w g A n c xs) (hn : 20 ≤ n) :
    Calls Try.prog 43 #[.pointer (some ⟨g, 0, none⟩)] w fun e w' => e = .returned (.bool (bad1 xs)) ∧ Fr [] w w' := by
  have hc := h.cell
  obtain ⟨x, hx, ex⟩ := bt_get (xs := xs) (k := 0) (by rw [h.len]; omega)
  obtain ⟨b0, o, rfl⟩ := rd_addr8 h.rd (by rw [h.len]; omega)
  have hc1 := rdj h.rd 0 x hx
  rw [Nat.add_zero] at hc1
  have hi0 : (0 : Int) < (n : Int) := by omega
  obtain ⟨q, hq⟩ : ∃ q, q = x.toNat / 16 := ⟨_, rfl⟩
  obtain ⟨b, hb⟩ : ∃ b, b = bad1 xs := ⟨_, rfl⟩
  have hd : ((q : Int) != 4) = b := by
    rw [hb, hq, Bool.eq_iff_iff]; simp only [bad1, ← ex, bne_iff_ne, decide_eq_true_eq]; omega
  have w0 : (x.toNat : Int).tdiv 16 = (q : Int) := by rw [Int.tdiv_eq_ediv_of_nonneg (by omega)]; omega
  have w1 : (x.toNat : Int) / 16 = (q : Int) := by omega
  have hql : q < 16 := by have := x.toNat_lt; omega
  have w2 : IntKind.u8.wrap (q : Int) = q := u8_in (by omega) (by omega)
  rw [← hb]
  clear h hb hq ex hx
  go_enter Try.func43, Try.ntmps43
  go_wp2
  go_ret
  exact ⟨rfl, Fr.refl _ _⟩

set_option maxHeartbeats 1000000 in
theorem cl3_any {w : World} {g : Nat} {A : Option Addr} {n c : Nat} {xs : List UInt8} (h : BoxB w g A n c xs) (hn : 20 ≤ n) :
    Calls Try.prog 44 #[.pointer (some ⟨g, 0, none⟩)] w fun e w' => e = .returned (.bool (bad2 xs)) ∧ Fr [] w w' := by
  have hc := h.cell
  have cS := fun W (hW : Fr [] w W) => size_any A n c xs W h.len (h.rd.fr hW (by simp)) (by omega)
  obtain ⟨b, hb⟩ : ∃ b, b = bad2 xs := ⟨_, rfl⟩
  have HB : Hid (b = decide (szN xs < 20 ∨ n < szN xs)) := by show _ = _; rw [hb, ← h.len]; rfl
  rw [← hb]
  generalize szN xs = z at cS HB
  clear h hb
  by_cases h1 : z < 20
  · have d1 : decide ((z : Int) < 20) = true := by simp; omega
    have hE : b = true := by rw [HB.out]; simp [h1]
    have HE := Lib.hid hE
    have X1 := xt_cell hc
    clear h1 HB hE
    go_enter Try.func44, Try.ntmps44
    go_wp2_with fail
    refine wp_region_xt (by kernel_rfl) (by kernel_rfl) ?_
    repeat (go_big_quiet_step ((go_at_call 30; exact Calls.xt cS _)))
    refine wpQuiet_nil ?_
    rintro w1 ⟨y, rfl⟩
    have hy := xt_fr y
    clear X1
    generalize xt y = w2 at hy ⊢
    go_wp2
    go_ret
    exact ⟨ret_bool (by rw [HE.out]), hy⟩
  · have d1 : decide ((z : Int) < 20) = false := by simp; omega
    have d2 : decide ((n : Int) < (z : Int)) = b := by rw [HB.out]; simp [h1]
    have d3 : decide (n < z) = b := by rw [HB.out]; simp [h1]
    have X1 := xt_cell hc
    clear h1 HB
    go_enter Try.func44, Try.ntmps44
    go_wp2_with fail
    refine wp_region_xt (by kernel_rfl) (by kernel_rfl) ?_
    repeat (go_big_quiet_step ((go_at_call 30; exact Calls.xt cS _)))
    refine wpQuiet_nil ?_
    rintro w1 ⟨y, rfl⟩
    have hy := xt_fr y
    clear X1
    generalize xt y = w2 at hy ⊢
    go_wp2
    go_ret
    exact ⟨rfl, hy⟩

set_option maxHeartbeats 1000000 in
theorem cl4_any {w : World} {g : Nat} {A : Option Addr} {n c : Nat} {xs : List UInt8} (h : BoxB w g A n c xs) (hn : 20 ≤ n) :
    Calls Try.prog 45 #[.pointer (some ⟨g, 0, none⟩)] w fun e w' => e = .returned (.bool (bad3 xs)) ∧ Fr [] w w' := by
  have hc := h.cell
  have cS := fun W (hW : Fr [] w W) => size_any A n c xs W h.len (h.rd.fr hW (by simp)) (by omega)
  have cT := fun W (hW : Fr [] w W) => total_any A n c xs W h.len (h.rd.fr hW (by simp)) (by omega) h.n
  obtain ⟨b, hb⟩ : ∃ b, b = bad3 xs := ⟨_, rfl⟩
  have HB : Hid (b = decide (totN xs < szN xs ∨ n < totN xs)) := by show _ = _; rw [hb, ← h.len]; rfl
  rw [← hb]
  generalize szN xs = z at cS HB
  generalize totN xs = t at cT HB
  clear h hb
  by_cases h1 : t < z
  · have d1 : decide ((t : Int) < (z : Int)) = true := by simp; omega
    have d1' : decide (t < z) = true := by simp; omega
    have hE : b = true := by rw [HB.out]; simp [h1]
    have HE := Lib.hid hE
    have X1 := xt_cell hc
    clear h1 HB hE
    go_enter Try.func45, Try.ntmps45
    go_wp2_with fail
    refine wp_region_xt (by kernel_rfl) (by kernel_rfl) ?_
    repeat (go_big_quiet_step ((first | (go_at_call 30; exact Calls.xt cS _) | (go_at_call 31; exact Calls.xt cT _))))
    refine wpQuiet_nil ?_
    rintro w1 ⟨y, rfl⟩
    have hy := xt_fr y
    clear X1
    generalize xt y = w2 at hy ⊢
    go_wp2
    go_ret
    exact ⟨ret_bool (by rw [HE.out]), hy⟩
  · have d1 : decide ((t : Int) < (z : Int)) = false := by simp; omega
    have d1' : decide (t < z) = false := by simp; omega
    have d2 : decide ((n : Int) < (t : Int)) = b := by rw [HB.out]; simp [h1]
    have d3 : decide (n < t) = b := by rw [HB.out]; simp [h1]
    have X1 := xt_cell hc
    clear h1 HB
    go_enter Try.func45, Try.ntmps45
    go_wp2_with fail
    refine wp_region_xt (by kernel_rfl) (by kernel_rfl) ?_
    repeat (go_big_quiet_step ((first | (go_at_call 30; exact Calls.xt cS _) | (go_at_call 31; exact Calls.xt cT _))))
    refine wpQuiet_nil ?_
    rintro w1 ⟨y, rfl⟩
    have hy := xt_fr y
    clear X1
    generalize xt y = w2 at hy ⊢
    go_wp2
    go_ret
    exact ⟨rfl, hy⟩

set_option maxHeartbeats 1000000 in
theorem cl5_any {w : World} {g : Nat} {A : Option Addr} {n c : Nat} {xs : List UInt8} (h : BoxB w g A n c xs) (hn : 20 ≤ n) (hz : szN xs ≤ n) :
    Calls Try.prog 46 #[.pointer (some ⟨g, 0, none⟩)] w fun e w' => e = .returned (.bool (bad4 xs)) ∧ Fr [] w w' := by
  have hc := h.cell
  have cS := fun W (hW : Fr [] w W) => size_any A n c xs W h.len (h.rd.fr hW (by simp)) (by omega)
  have cR := fun W (hW : Fr [] w W) => right_any A (szN xs) c (xs.take (szN xs)) W (by rw [List.length_take, h.len]; omega) (by rw [← B8_take]; exact (h.rd.fr hW (by simp)).take _) (by have := h.n; omega)
  have hE : bad4 xs = !decide (fold (wsum (xs.take (szN xs))) = 65535) := rfl
  rw [hE]
  generalize decide (fold (wsum (xs.take (szN xs))) = 65535) = r at cR ⊢
  have b1 : (szN xs : Int) ≤ (c : Int) := by have := h.nc; omega
  have b2 : (0 : Int) ≤ (szN xs : Int) := by omega
  generalize szN xs = z at *
  have X1 := xt_cell hc
  clear h hE
  go_enter Try.func46, Try.ntmps46
  go_wp2_with fail
  refine wp_region_xt (by kernel_rfl) (by kernel_rfl) ?_
  repeat (go_big_quiet_step ((first | (go_at_call 30; exact Calls.xt cS _) | (go_at_call 13; exact Calls.xt cR _))))
  refine wpQuiet_nil ?_
  rintro w1 ⟨y, rfl⟩
  have hy := xt_fr y
  clear X1
  generalize xt y = w2 at hy ⊢
  go_wp2
  go_ret
  exact ⟨rfl, hy⟩

set_option maxHeartbeats 1000000 in
theorem cl6_any {w : World} {g : Nat} {A : Option Addr} {n c : Nat} {xs : List UInt8} (h : BoxB w g A n c xs) (hn : 20 ≤ n) :
    Calls Try.prog 47 #[.pointer (some ⟨g, 0, none⟩)] w fun e w' => e = .returned (.bool (bad5 xs)) ∧ Fr [] w w' := by
  have hc := h.cell
  have cW := word_lit A n c xs 6 6 rfl w h.len h.rd (by omega) h.n
  have lv := wd_lt xs 6
  have a1 := and_ne (v := wd xs 6) 15 32768 rfl lv (by decide)
  obtain ⟨b, hb⟩ : ∃ b, b = bad5 xs := ⟨_, rfl⟩
  have hd : (bits BinOp.and IntKind.u16 (wd xs 6 : Int) 32768 != 0) = b := by
    rw [a1, hb]; unfold bad5; rw [decide_eq_decide]; omega
  rw [← hb]
  generalize wd xs 6 = v at *
  clear h hb a1
  go_enter Try.func47, Try.ntmps47
  go_wp2_with fail
  refine cW.mono ?_
  rintro e w1 ⟨rfl, hF⟩
  clear cW
  go_wp2_with fail
  go_ret
  exact ⟨rfl, hF⟩
end Go.Proofs.Ytjpcfphmejenoaa
