/- FormatUint at base 10, and the decimal text of a number of a span. -/
import Derived.Test.YtjfadoealhlccaaGreatDoorNumb
import Derived.Test.YtjfadoealhlccaaGreatDoorRest
import Derived.Shelf.Strconv.Itoa3
import Derived.Lib.ItoaMem
namespace Go.Proofs.YtjfadoealhlccaaGreatDoor
open Go.RowKit Go.Sort Go.Lib
set_option linter.unusedVariables false
set_option maxRecDepth 100000

theorem holds_zero0 (w : World) (T : TypeId) (nd : Nat) (hs : nd ≤ 24) : Holds (fun (b : UInt8) => Value.int .u8 (b.toNat : Int)) (w.alloc (.cells Lib.zeros24 T)) w.heap.size 0 (Array.replicate nd (0 : UInt8)) := fun j hj => by
  have hj' : j < nd := by simpa using hj
  refine ⟨?_, World.frozen?_alloc_new _ _ _ _⟩
  rw [World.cell?_alloc_new, Lib.zeros24_at _ (by omega), getElem!_pos _ j hj]
  simp
theorem fin_zero (w : World) (o : Obj) (dk : Array UInt8) (k : Nat) : ∃ os, (putRow (fun (b : UInt8) => Value.int .u8 (b.toNat : Int)) (w.alloc o) w.heap.size 0 dk).drewN k = grow (w.drewN k) os := by
  rw [alloc_eq_grow]
  obtain ⟨os', _, e⟩ := putRow_grow_new (fun (b : UInt8) => Value.int .u8 (b.toNat : Int)) w #[o] w.heap.size 0 dk (Nat.le_refl _)
  exact ⟨os', by rw [e]; rfl⟩
set_option maxHeartbeats 1000000 in
theorem fmt_any (u : Nat) (hu64 : u < 18446744073709551616) (w : World) (hV : VV w) :
    Calls Tryz.prog 86 #[.int .u64 u, .int .i64 10] w fun e w' => e = .returned (.string ⟨(dec u).toArray⟩) ∧ Fr [] w w' := by
  have htab := hV.pow
  clear hV
  by_cases hs : u < 100
  · have cS := show Calls Tryz.prog 101 #[.int .i64 (u : Int)] w _ from Any.internal_strconv_small lays283 u hs w
    have hw : IntKind.i64.wrap (u : Int) = u := by rw [IntKind.wrap_i64]; omega
    go_enter Tryz.func86, Tryz.ntmps86
    go_wp2_with fail
    refine cS.mono ?_
    rintro e w' ⟨rfl, rfl⟩
    go_wp2_with fail
    go_ret
    exact ⟨rfl, Fr.refl _ _⟩
  · have hu1 : 1 ≤ u := by omega
    have hnd20 : Lib.nDigits u ≤ 20 := by have := Lib.numDigits_eq u hu1 hu64; split at this <;> omega
    have hal : Tryz.prog.arrayLen 157 = 24 := by kernel_rfl
    have hsl : ∀ W, (Instr.sliceAt 157 (.pointer (some ⟨w.heap.size, 0, none⟩)) none (some (.int .i64 (Lib.nDigits u : Int))) none).run Tryz.prog W = .ok (.slice (some ⟨w.heap.size, 0, none⟩) (Lib.nDigits u) 24) W := fun W => by
      rw [run_sliceAt_array_h W 157 ⟨w.heap.size, 0, none⟩ (by kernel_rfl) .i64 (Lib.nDigits u : Int) (by omega) (by rw [hal]; omega)]
      go_simp
    have cD := show Calls Tryz.prog 102 #[.int .u64 u] (w.alloc (.cells Lib.zeros24 157)) _ from Any.internal_strconv_numDigits lays284 u hu1 hu64 _ (Lib.tabIs_alloc htab _)
    have hH0 := holds_zero0 w 157 (Lib.nDigits u) (by omega)
    have hfmt := Any.internal_strconv_formatBase10 lays285 w.heap.size 0 24 u (Array.replicate (Lib.nDigits u) 0) (w.alloc (.cells Lib.zeros24 157)) hH0 (by rw [Array.size_replicate]; exact Lib.lt_pow_nDigits u) hu64 (by rw [Array.size_replicate]; omega)
    rw [Array.size_replicate] at hfmt
    replace hfmt := show Calls Tryz.prog 103 #[.slice (some ⟨w.heap.size, 0, none⟩) (Lib.nDigits u) 24, .int .u64 u] (w.alloc (.cells Lib.zeros24 157)) _ from hfmt
    have HH0 := Lib.hid hH0
    clear hH0 hal htab
    go_enter Tryz.func86, Tryz.ntmps86
    go_wp2_with fail
    refine cD.mono ?_
    rintro e w' ⟨rfl, rfl⟩
    go_wp2_with fail
    refine hfmt.mono ?_
    rintro e w' ⟨rfl, k, v', dk, rfl, hF⟩
    have hcv : (convert 95 9 (.slice (some ⟨w.heap.size, 0, none⟩) (Lib.nDigits u) 24)).run Tryz.prog ((putRow (fun (b : UInt8) => Value.int .u8 (b.toNat : Int)) (w.alloc (.cells Lib.zeros24 157)) w.heap.size 0 dk).drewN k) = .ok (.string ⟨(Lib.decDigits u).toArray⟩) ((putRow (fun (b : UInt8) => Value.int .u8 (b.toNat : Int)) (w.alloc (.cells Lib.zeros24 157)) w.heap.size 0 dk).drewN k) := by
      have h := run_convert_bytes_back (P := Tryz.prog) ((putRow (fun (b : UInt8) => Value.int .u8 (b.toNat : Int)) (w.alloc (.cells Lib.zeros24 157)) w.heap.size 0 dk).drewN k) 95 9 5 ⟨w.heap.size, 0, none⟩ 24 (Lib.decDigits u) (by kernel_rfl) (by kernel_rfl) (by kernel_rfl) (fun j hj => by
        rw [Lib.row_is_numeral hF j hj, Lib.add_plain, World.cell?_drewN]
        exact cell?_putRow (fun (b : UInt8) => Value.int .u8 (b.toNat : Int)) _ w.heap.size 0 _ dk HH0.out (by rw [hF.size, Array.size_replicate]) j (by rw [hF.size]; rw [Lib.decDigits_length] at hj; exact hj))
      rw [Lib.decDigits_length] at h
      exact h
    go_wp2_with fail
    go_ret
    obtain ⟨os, eo⟩ := fin_zero w (.cells Lib.zeros24 157) dk k
    rw [eo]
    exact ⟨rfl, ((Fr.refl [] w).drewN k).trans (fr_grow _ os)⟩
theorem fmtu_any (u : Nat) (hu64 : u < 18446744073709551616) (w : World) (hV : VV w) :
    Calls Tryz.prog 67 #[.int .u64 u, .int .i64 10] w fun e w' => e = .returned (.string ⟨(dec u).toArray⟩) ∧ Fr [] w w' := by
  have h := fmt_any u hu64 w hV
  go_enter Tryz.func67, Tryz.ntmps67
  go_wp2_with fail
  refine h.mono ?_
  rintro e w' ⟨rfl, hF⟩
  go_wp2_with fail
  go_ret
  exact ⟨rfl, hF⟩
theorem dec_any (n : Nat) (hn : n < 4294967296) (w : World) (hV : VV w) :
    Calls Tryz.prog 50 #[.int .u32 n] w fun e w' => e = .returned (.string ⟨(dec n).toArray⟩) ∧ Fr [] w w' := by
  have h := fmtu_any n (by omega) w hV
  have hw : IntKind.u64.wrap (n : Int) = n := by rw [IntKind.wrap_u64]; omega
  go_enter Tryz.func50, Tryz.ntmps50
  go_wp2_with fail
  refine h.mono ?_
  rintro e w' ⟨rfl, hF⟩
  go_wp2_with fail
  go_ret
  exact ⟨rfl, hF⟩
def stext (x : Nat × Nat) : List UInt8 := if x.1 = x.2 then dec x.1 else dec x.1 ++ 45 :: dec x.2
theorem text1_any (a b : Nat) (ha : a < 4294967296) (hb : b < 4294967296) (w : World) (hV : VV w) :
    Calls Tryz.prog 36 #[.agg #[.int .u32 a, .int .u32 b]] w fun e w' => e = .returned (.string ⟨(stext (a, b)).toArray⟩) ∧ Fr [] w w' := by
  have hF : Fr [] w (w.alloc (.cells #[.int .u32 a, .int .u32 b] 40)) := (Fr.refl _ _).alloc _
  have h := dec_any a ha _ (hV.fr hF)
  have p1 := new_cell w #[.int .u32 a, .int .u32 b] 40 0 _ rfl
  have p2 := new_cell w #[.int .u32 a, .int .u32 b] 40 1 _ rfl
  by_cases he : a = b
  · subst he
    have e : stext (a, a) = dec a := if_pos rfl
    rw [e]
    clear e
    go_enter Tryz.func36, Tryz.ntmps36
    go_wp2_with fail
    refine h.mono ?_
    rintro e w' ⟨rfl, hG⟩
    replace p1 := hG.cell p1 (by simp)
    replace p2 := hG.cell p2 (by simp)
    go_wp2_with fail
    go_ret
    exact ⟨rfl, hF.trans hG⟩
  · have e : stext (a, b) = dec a ++ 45 :: dec b := if_neg he
    rw [e]
    clear e
    have hne : ((a : Int) == b) = false := by rw [beq_eq_false_iff_ne]; omega
    have l1 := dec_len_le (n := a) (by omega)
    have l2 := dec_len_le (n := b) (by omega)
    have n1 : ¬ 9223372036854775807 < (dec a).length + 1 := by omega
    have n2 : ¬ 9223372036854775807 < (dec a).length + 1 + (dec b).length := by omega
    clear l1 l2
    go_enter Tryz.func36, Tryz.ntmps36
    go_wp2_with fail
    refine h.mono ?_
    rintro e w' ⟨rfl, hG⟩
    replace p1 := hG.cell p1 (by simp)
    replace p2 := hG.cell p2 (by simp)
    have h2 := dec_any b hb _ (hV.fr (hF.trans hG))
    go_wp2_with fail
    refine h2.mono ?_
    rintro e w2 ⟨rfl, hG2⟩
    go_wp2_with fail
    go_ret
    refine ⟨?_, (hF.trans hG).trans hG2⟩
    show Ending.returned (Value.string _) = _
    congr 2
    apply ByteArray.ext
    simp
end Go.Proofs.YtjfadoealhlccaaGreatDoor
