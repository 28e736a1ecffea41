/- The walk of CsumSmall. -/
import Derived.Test.YtdkpmbefnfdbkaaTells
import Derived.Test.YtdkpmbefnfdbkaaNumb
import Derived.Test.YtdkpmbefnfdbkaaUpdts
namespace Go.Proofs.Ytdkpmbefnfdbkaa
open Go.RowKit

def L7 : List UInt8 := [0, 1, 2, 127, 128, 254, 255]
def L9 : List Nat := [0, 1, 255, 256, 32767, 32768, 65279, 65534, 65535]
theorem cell7 {w : World} {g j : Nat} (h : Rd w (some ⟨g, 0, none⟩) (B8 L7)) (hj : j < 7) : ∃ x : UInt8, w.cell? ⟨g, j, none⟩ = some (.int .u8 x.toNat) := by
  obtain ⟨x, hx⟩ : ∃ x, L7[j]? = some x := ⟨_, List.getElem?_eq_getElem hj⟩
  refine ⟨x, ?_⟩
  have := rdc h j (.int .u8 x.toNat) (by rw [B8_get, hx]; rfl)
  rwa [Nat.zero_add] at this

theorem cell9 {w : World} {g j : Nat} (h : Rd w (some ⟨g, 0, none⟩) (W16 L9)) (hj : j < 9) : ∃ x : Nat, w.cell? ⟨g, j, none⟩ = some (.int .u16 x) ∧ x < 65536 := by
  obtain ⟨x, hx⟩ : ∃ x, L9[j]? = some x := ⟨_, List.getElem?_eq_getElem hj⟩
  have hm : ∀ y ∈ L9, y < 65536 := by decide
  refine ⟨x, ?_, hm x (List.mem_of_getElem? hx)⟩
  have := rdc h j (.int .u16 x) (by rw [W16_get, hx]; rfl)
  rwa [Nat.zero_add] at this

theorem made8 (m : Nat) : (madeCells (Value.int .u8 0).cells (m * 1)).toList = B8 (List.replicate m 0) := by
  rw [Nat.mul_one]
  show (madeCells #[Value.int .u8 0] m).toList = _
  rw [toList_madeCells_one]
  simp [B8]
theorem made16 (m : Nat) : (madeCells (Value.int .u16 0).cells (m * 1)).toList = W16 (List.replicate m 0) := by
  rw [Nat.mul_one]
  show (madeCells #[Value.int .u16 0] m).toList = _
  rw [toList_madeCells_one]
  simp [W16]
theorem make8g (m : Nat) (hm : m ≤ 100000) (w : World) : ∃ w', Sem.run Try.prog (Instr.makeSlice 22 (Value.int IntKind.i64 m) (Value.int IntKind.i64 m)) w = .ok (.slice (some ⟨w.heap.size, 0, none⟩) m m) w' ∧
    (∃ ys, Ow w' (.slice (some ⟨w.heap.size, 0, none⟩) m m) m ys) ∧ Fr [] w w' := by
  obtain ⟨i0, hi, hz0, hz1, hz2⟩ := info_parts info8
  obtain ⟨w', hm, ho, hg⟩ := run_make_full (P := Try.prog) w 0 22 5 i0 (.int .u8 0) 1 Try.underlying22 hi hz0 hz1 .i64 .i64 m (by rw [hz2]; omega) (by unfold maxLen; omega) (Nat.zero_le _)
  rw [made8] at ho
  exact ⟨w', hm, ⟨_, ho⟩, (Fr.refl _ _).grown hg (by simp)⟩
theorem make16g (m : Nat) (hm : m ≤ 100000) (w : World) : ∃ w', Sem.run Try.prog (Instr.makeSlice 26 (Value.int IntKind.i64 m) (Value.int IntKind.i64 m)) w = .ok (.slice (some ⟨w.heap.size, 0, none⟩) m m) w' ∧
    Rd w' (some ⟨w.heap.size, 0, none⟩) (W16 (List.replicate m 0)) ∧ Fr [] w w' := by
  obtain ⟨i0, hi, hz0, hz1, hz2⟩ := info_parts info16
  obtain ⟨w', hm, ho, hg⟩ := run_make_full (P := Try.prog) w 0 26 23 i0 (.int .u16 0) 1 Try.underlying26 hi hz0 hz1 .i64 .i64 m (by rw [hz2]; omega) (by unfold maxLen; omega) (Nat.zero_le _)
  rw [made16] at ho
  exact ⟨w', hm, Rd.own ho, (Fr.refl _ _).grown hg (by simp)⟩
theorem make8 (w : World) : ∃ w', Sem.run Try.prog (Instr.makeSlice 22 (Value.int IntKind.i64 70001) (Value.int IntKind.i64 70001)) w = .ok (.slice (some ⟨w.heap.size, 0, none⟩) 70001 70001) w' ∧
    (∃ ys, Ow w' (.slice (some ⟨w.heap.size, 0, none⟩) 70001 70001) 70001 ys) ∧ Fr [] w w' := make8g 70001 (by omega) w
theorem make16 (w : World) : ∃ w', Sem.run Try.prog (Instr.makeSlice 26 (Value.int IntKind.i64 70000) (Value.int IntKind.i64 70000)) w = .ok (.slice (some ⟨w.heap.size, 0, none⟩) 70000 70000) w' ∧
    Rd w' (some ⟨w.heap.size, 0, none⟩) (W16 (List.replicate 70000 0)) ∧ Fr [] w w' := make16g 70000 (by omega) w

set_option maxRecDepth 100000 in
set_option maxHeartbeats 4000000 in
theorem csmall_any (w : World) :
    Calls Try.prog 5 #[] w fun e w' => e = .returned (.bool true) ∧ Fr [] w w' := by
  go_enter Try.func5, Try.ntmps5
  go_wp2_with fail
  have hF0 : Fr [] w (w.alloc (.cells #[.int .u8 0, .int .u8 1, .int .u8 2, .int .u8 127, .int .u8 128, .int .u8 254, .int .u8 255] 5)) := (Fr.refl _ _).alloc _
  have hr0 : Rd (w.alloc (.cells #[.int .u8 0, .int .u8 1, .int .u8 2, .int .u8 127, .int .u8 128, .int .u8 254, .int .u8 255] 5)) (some ⟨w.heap.size, 0, none⟩) (B8 L7) := rd_new w L7 _
  have HR0 := Lib.hid hr0
  clear hr0
  generalize w.alloc (.cells #[.int .u8 0, .int .u8 1, .int .u8 2, .int .u8 127, .int .u8 128, .int .u8 254, .int .u8 255] 5) = w0 at hF0 HR0 ⊢
  generalize w.heap.size = g0 at HR0 ⊢
  go_loopw [16] (fun i wr => ∃ k : Nat, k ≤ 343 ∧ i = .int .i64 k ∧ Fr [] w0 wr) (fun i _ => 343 - (intOf i).toNat)
  case atStart => exact ⟨0, Nat.zero_le _, rfl, Fr.refl _ _⟩
  case round =>
    obtain ⟨k, hk, rfl, hF⟩ := hrel
    by_cases hlt : k < 343
    · have hlt' : (k : Int) < 343 := by omega
      obtain ⟨d, hd⟩ : ∃ d, d = k / 7 := ⟨_, rfl⟩
      obtain ⟨j1, hj1⟩ : ∃ j, j = k % 7 := ⟨_, rfl⟩
      obtain ⟨j2, hj2⟩ : ∃ j, j = d % 7 := ⟨_, rfl⟩
      obtain ⟨j3, hj3⟩ : ∃ j, j = k / 49 := ⟨_, rfl⟩
      have e1 : (k : Int).tmod 7 = j1 := by rw [Int.tmod_eq_emod_of_nonneg (by omega)]; omega
      have e2 : (k : Int).tdiv 7 = d := by rw [Int.tdiv_eq_ediv_of_nonneg (by omega)]; omega
      have e3 : (d : Int).tmod 7 = j2 := by rw [Int.tmod_eq_emod_of_nonneg (by omega)]; omega
      have e4 : (k : Int).tdiv 49 = j3 := by rw [Int.tdiv_eq_ediv_of_nonneg (by omega)]; omega
      have i2 : IntKind.i64.wrap (d : Int) = d := i64_nat (by omega)
      have i4 : IntKind.i64.wrap (j3 : Int) = j3 := i64_nat (by omega)
      have b1 : (0 : Int) ≤ (j1 : Int) ∧ (j1 : Int) < 7 := by omega
      have b2 : (0 : Int) ≤ (j2 : Int) ∧ (j2 : Int) < 7 := by omega
      have b3 : (0 : Int) ≤ (j3 : Int) ∧ (j3 : Int) < 7 := by omega
      have hr := HR0.out.fr hF (by simp)
      obtain ⟨x, hx⟩ := cell7 hr (j := j1) (by omega)
      obtain ⟨y, hy⟩ := cell7 hr (j := j2) (by omega)
      obtain ⟨z, hz⟩ := cell7 hr (j := j3) (by omega)
      have hkk : (0 : Int) ≤ (k : Int) := by omega
      have hdd : (0 : Int) ≤ (d : Int) := by omega
      clear hd hj1 hj2 hj3 hr
      go_wp2
      refine wp_region_still_tail 16 (by kernel_rfl) (by kernel_rfl) ?_
      simp only [List.take_succ_cons, List.take_zero, List.drop_succ_cons, List.drop_zero]
      repeat still_step
      refine wpStill_nil ?_
      change wpList _ _ _ _ _ (World.drewN wr 1)
      obtain ⟨wb, hwb⟩ : ∃ wb, wb = (wr.drewN 1).alloc (.cells #[.int .u8 x.toNat, .int .u8 y.toNat, .int .u8 z.toNat] 5) := ⟨_, rfl⟩
      have hFb : Fr [] w0 wb := by rw [hwb]; exact (hF.drewN 1).alloc _
      have hrb : Rd wb (some ⟨wr.heap.size, 0, none⟩) (B8 [x, y, z]) := by rw [hwb]; exact rd_new (wr.drewN 1) [x, y, z] _
      have hT : ∀ (W : World) (s : Nat) (a : Int) (v : Nat), Fr [] wb W → s ≤ 3 → v < 65536 → Calls Try.prog 9 #[.slice (some ⟨wr.heap.size, 0, none⟩) s 3, .int .i64 a, .int .u16 v] W fun e w' => e = .returned (.bool true) ∧ Fr [] W w' := by
        intro W s a v hW hs hv
        refine tells_any (some ⟨wr.heap.size, 0, none⟩) s 3 ([x, y, z].take s) a v W (by rw [List.length_take]; simp; omega) ?_ (by simp) (by omega) hv
        rw [← B8_take]
        exact (hrb.fr hW (by simp)).take s
      have HT := Lib.hid hT
      have HWB := Lib.hid hwb
      obtain ⟨v, hv⟩ : ∃ v, v = k * 191 := ⟨_, rfl⟩
      have hv1 : v < 65536 := by omega
      have hu1 : IntKind.u16.wrap (k : Int) = k := u16_in (by omega) (by omega)
      have hu2 : IntKind.u16.wrap ((k : Int) * 191) = v := by rw [u16_in (by omega) (by omega)]; omega
      clear hwb hrb hT hx hy hz e1 e2 e3 e4 i2 i4 b1 b2 b3 hv
      go_wp2
      go_loopw [36] (fun i wr => ∃ s : Nat, s ≤ 4 ∧ i = .int .i64 s ∧ Fr [] wb wr) (fun i _ => 4 - (intOf i).toNat)
      case atStart => exact ⟨0, Nat.zero_le _, rfl, by rw [HWB.out]; exact Fr.refl _ _⟩
      case round =>
        obtain ⟨s, hs, rfl, hF2⟩ := hrel
        by_cases hst : s < 4
        · have hst' : (s : Int) < 4 := by omega
          have hs0 : (0 : Int) ≤ (s : Int) ∧ (s : Int) ≤ 3 := by omega
          have hs3 : s ≤ 3 := by omega
          go_wp2
          go_loopw [5] (fun i wr => ∃ a : Int, -2 ≤ a ∧ a ≤ 5 ∧ i = .int .i64 a ∧ Fr [] wb wr) (fun i _ => (5 - intOf i).toNat)
          case atStart => exact ⟨-2, by decide, by decide, rfl, hF2⟩
          case round =>
            obtain ⟨a, ha, ha2, rfl, hF3⟩ := hrel
            by_cases hat : a < 5
            · go_wp2_with fail
              refine (HT.out _ s a v hF3 hs3 hv1).mono ?_
              rintro e w' ⟨rfl, hF4⟩
              replace hF3 := hF3.trans hF4
              go_wp2_with fail
              go_roundw
              case rel => exact ⟨a + 1, by omega, by omega, by go_num, hF3⟩
              case measure => simp [intOf]; omega
            · obtain rfl : a = 5 := by omega
              go_wp2
              go_roundw
              case rel => exact ⟨s + 1, by omega, by go_num, hF3⟩
              case measure => simp [intOf]; omega
        · obtain rfl : s = 4 := by omega
          go_wp2
          go_roundw
          case rel => exact ⟨k + 1, by omega, by go_num, hFb.trans hF2⟩
          case measure => simp [intOf]; omega
    · have hge : ¬ ((k : Int) < 343) := by omega
      have hF9 : Fr [] w (wr.alloc (.cells #[.int .u16 0, .int .u16 1, .int .u16 255, .int .u16 256, .int .u16 32767, .int .u16 32768, .int .u16 65279, .int .u16 65534, .int .u16 65535] 23)) := (hF0.trans hF).alloc _
      have hr9 : Rd (wr.alloc (.cells #[.int .u16 0, .int .u16 1, .int .u16 255, .int .u16 256, .int .u16 32767, .int .u16 32768, .int .u16 65279, .int .u16 65534, .int .u16 65535] 23)) (some ⟨wr.heap.size, 0, none⟩) (W16 L9) := rd_lit wr (W16 L9) _
      have HR9 := Lib.hid hr9
      clear hr9 hF hF0 HR0
      go_wp2
      clear hge
      generalize wr.alloc (.cells #[.int .u16 0, .int .u16 1, .int .u16 255, .int .u16 256, .int .u16 32767, .int .u16 32768, .int .u16 65279, .int .u16 65534, .int .u16 65535] 23) = w9 at hF9 HR9 ⊢
      generalize wr.heap.size = g9 at HR9 ⊢
      go_loopw [55] (fun i wr => ∃ k : Nat, k ≤ 729 ∧ i = .int .i64 k ∧ Fr [] w9 wr) (fun i _ => 729 - (intOf i).toNat)
      case atStart => exact ⟨0, Nat.zero_le _, rfl, Fr.refl _ _⟩
      case round =>
        obtain ⟨k, hk, rfl, hF⟩ := hrel
        by_cases hlt : k < 729
        · have hlt' : (k : Int) < 729 := by omega
          obtain ⟨d, hd⟩ : ∃ d, d = k / 9 := ⟨_, rfl⟩
          obtain ⟨j1, hj1⟩ : ∃ j, j = k % 9 := ⟨_, rfl⟩
          obtain ⟨j2, hj2⟩ : ∃ j, j = d % 9 := ⟨_, rfl⟩
          obtain ⟨j3, hj3⟩ : ∃ j, j = k / 81 := ⟨_, rfl⟩
          have e1 : (k : Int).tmod 9 = j1 := by rw [Int.tmod_eq_emod_of_nonneg (by omega)]; omega
          have e2 : (k : Int).tdiv 9 = d := by rw [Int.tdiv_eq_ediv_of_nonneg (by omega)]; omega
          have e3 : (d : Int).tmod 9 = j2 := by rw [Int.tmod_eq_emod_of_nonneg (by omega)]; omega
          have e4 : (k : Int).tdiv 81 = j3 := by rw [Int.tdiv_eq_ediv_of_nonneg (by omega)]; omega
          have i2 : IntKind.i64.wrap (d : Int) = d := i64_nat (by omega)
          have i4 : IntKind.i64.wrap (j3 : Int) = j3 := i64_nat (by omega)
          have b1 : (0 : Int) ≤ (j1 : Int) ∧ (j1 : Int) < 9 := by omega
          have b2 : (0 : Int) ≤ (j2 : Int) ∧ (j2 : Int) < 9 := by omega
          have b3 : (0 : Int) ≤ (j3 : Int) ∧ (j3 : Int) < 9 := by omega
          have hr := HR9.out.fr hF (by simp)
          obtain ⟨x, hx, hxl⟩ := cell9 hr (j := j1) (by omega)
          obtain ⟨y, hy, hyl⟩ := cell9 hr (j := j2) (by omega)
          obtain ⟨z, hz, hzl⟩ := cell9 hr (j := j3) (by omega)
          have hkk : (0 : Int) ≤ (k : Int) := by omega
          have hdd : (0 : Int) ≤ (d : Int) := by omega
          clear hd hj1 hj2 hj3 hr
          go_wp2
          go_quiet (fail)
          obtain ⟨wb, hwb⟩ : ∃ wb, wb = (wr.drewN nq).alloc (.cells #[.int .u16 x, .int .u16 y, .int .u16 z] 23) := ⟨_, rfl⟩
          have hFb : Fr [] w9 wb := by rw [hwb]; exact (hF.drewN nq).alloc _
          have hrb : Rd wb (some ⟨wr.heap.size, 0, none⟩) (W16 [x, y, z]) := by rw [hwb]; exact rd_lit (wr.drewN nq) (W16 [x, y, z]) _
          obtain ⟨q, hq⟩ : ∃ q, q = k % 256 := ⟨_, rfl⟩
          have hu8 : IntKind.u8.wrap (k : Int) = q := by rw [u8_mod]; omega
          have hql : q < 256 := by omega
          have hwx : IntKind.u32.wrap (x : Int) = x := u32_in (by omega) (by omega)
          have hwy : IntKind.u32.wrap (y : Int) = y := u32_in (by omega) (by omega)
          have hwz : IntKind.u32.wrap (z : Int) = z := u32_in (by omega) (by omega)
          have hwx2 : IntKind.u32.wrap ((x : Int) * 65536) = (x : Int) * 65536 := u32_in (by omega) (by omega)
          have hwz2 : IntKind.u32.wrap ((z : Int) * 65536) = (z : Int) * 65536 := u32_in (by omega) (by omega)
          have hjn : bits BinOp.or IntKind.u32 ((x : Int) * 65536) (y : Int) = ((x * 65536 + y : Nat) : Int) := join32 16 (x * 65536) y (by omega) rfl (by omega) (by omega) (by omega)
          have hjm : bits BinOp.or IntKind.u32 ((z : Int) * 65536) (x : Int) = ((z * 65536 + x : Nat) : Int) := join32 16 (z * 65536) x (by omega) rfl (by omega) (by omega) (by omega)
          have hNm : ∀ l : Int, Calls Try.prog 11 #[.slice (some ⟨wr.heap.size, 0, none⟩) 3 3, .int .u16 x, .int .u16 y, .int .u16 z, .int .u32 (x * 65536 + y : Nat), .int .u32 (z * 65536 + x : Nat), .int .u8 q, .int .i64 l] wb fun e w' => e = .returned (.bool true) ∧ Fr [] wb w' := fun l =>
            numbers_any _ 3 3 [x, y, z] x y z (x * 65536 + y) (z * 65536 + x) q l wb rfl (by intro a ha; simp at ha; omega) hrb (by simp) hxl hyl hzl (by omega) (by omega) hql
          obtain ⟨ab, hab⟩ : ∃ ab, ab = x * 65536 + y := ⟨_, rfl⟩
          obtain ⟨cd, hcd⟩ : ∃ cd, cd = z * 65536 + x := ⟨_, rfl⟩
          rw [← hab] at hjn hNm
          rw [← hcd] at hjm hNm
          rw [hwb] at hNm
          have HNM := Lib.hid hNm
          have HFB := Lib.hid hFb
          have HWB := Lib.hid hwb
          clear hwb hrb hx hy hz e1 e2 e3 e4 i2 i4 b1 b2 b3 hq hab hcd hNm hFb
          go_wp2_with fail
          refine (HNM.out _).mono ?_
          rintro e w' ⟨rfl, hF4⟩
          have hF5 : Fr [] w9 w' := HFB.out.trans (by rw [HWB.out]; exact hF4)
          clear hF4
          go_wp2_with fail
          go_roundw
          case rel => exact ⟨k + 1, by omega, by go_num, hF5⟩
          case measure => simp [intOf]; omega
        · have hge : ¬ ((k : Int) < 729) := by omega
          go_wp2
          clear hge
          have hFc : Fr [] w (wr.alloc (.cells #[.int .u8 0, .int .u8 255, .int .u8 128] 5)) := (hF9.trans hF).alloc _
          have hrc : Rd (wr.alloc (.cells #[.int .u8 0, .int .u8 255, .int .u8 128] 5)) (some ⟨wr.heap.size, 0, none⟩) (B8 [0, 255, 128]) := rd_new wr [0, 255, 128] _
          have HRC := Lib.hid hrc
          clear hrc hF hF9 HR9
          generalize wr.alloc (.cells #[.int .u8 0, .int .u8 255, .int .u8 128] 5) = wc at hFc HRC ⊢
          generalize wr.heap.size = gc at HRC ⊢
          go_loopw [106] (fun i wr => ∃ k : Nat, k ≤ 3 ∧ i = .int .i64 k ∧ Fr [] wc wr) (fun i _ => 3 - (intOf i).toNat)
          case atStart => exact ⟨0, Nat.zero_le _, rfl, Fr.refl _ _⟩
          case round =>
            obtain ⟨k, hk, rfl, hF⟩ := hrel
            by_cases hlt : k < 3
            · have hlt' : (0 : Int) ≤ (k : Int) ∧ (k : Int) < 3 := by omega
              obtain ⟨c, hc0⟩ : ∃ c, ([0, 255, 128] : List UInt8)[k]? = some c := ⟨_, List.getElem?_eq_getElem hlt⟩
              have hcc := rdc (HRC.out.fr hF (by simp)) k (.int .u8 c.toNat) (by rw [B8_get, hc0]; rfl)
              rw [Nat.zero_add] at hcc
              obtain ⟨wm, hmk, ⟨ys, hys⟩, hFm⟩ := make8 wr
              have HF := Lib.hid (hF.trans hFm)
              have HYS := Lib.hid hys
              have HGB := Lib.hid (show wc.heap.size ≤ wr.heap.size from hF.size)
              clear hc0 hF hFm hys
              generalize wr.heap.size = gb at hmk HYS HGB
              go_wp2
              go_loopw [113] (fun i wr => ∃ j : Nat, j ≤ 70001 ∧ i = .int .i64 j ∧ (∃ ys, Ow wr (.slice (some ⟨gb, 0, none⟩) 70001 70001) 70001 ys) ∧ Fr [] wc wr) (fun i _ => 70001 - (intOf i).toNat)
              case atStart => exact ⟨0, Nat.zero_le _, rfl, ⟨_, HYS.out⟩, HF.out⟩
              case round =>
                obtain ⟨j, hj, rfl, ⟨zs, hzs⟩, hFj⟩ := hrel
                by_cases hjt : j < 70001
                · have hj0 : (0 : Int) ≤ (j : Int) ∧ (j : Int) < 70001 := by omega
                  have hzl := hzs.len
                  obtain ⟨z, hz0⟩ : ∃ z, zs[j]? = some z := ⟨_, List.getElem?_eq_getElem (by omega)⟩
                  have hcz := own_cell hzs (j := j) (u := .int .u8 z.toNat) (by rw [B8_get, hz0]; rfl)
                  have hfz := own_fz hzs j
                  have hO := own_set hzs j (.int .u8 c.toNat)
                  rw [B8_set _ j c rfl] at hO
                  have HO := Lib.hid hO
                  have hFs : Fr [] wc (wr.setCell ⟨gb, j, none⟩ (.int .u8 c.toNat)) := hFj.setCell (.inr HGB.out) _
                  clear hzs hz0 hO hFj
                  go_wp2
                  go_roundw
                  case rel => exact ⟨j + 1, by omega, by go_num, ⟨_, HO.out⟩, hFs⟩
                  case measure => simp [intOf]; omega
                · have hgj : ¬ ((j : Int) < 70001) := by omega
                  have hT : ∀ (W : World) (a : Int) (v : Nat), Fr [] wr W → v < 65536 → Calls Try.prog 9 #[.slice (some ⟨gb, 0, none⟩) 70001 70001, .int .i64 a, .int .u16 v] W fun e w' => e = .returned (.bool true) ∧ Fr [] W w' := fun W a v hW hv =>
                    tells_any (some ⟨gb, 0, none⟩) 70001 70001 zs a v W hzs.len ((Rd.own hzs).fr hW (by simp)) (by simp) (by omega) hv
                  have hT1 : ∀ (W : World) (a : Int) (v : Nat), Fr [] wr W → v < 65536 → Calls Try.prog 9 #[.slice (some ⟨gb, 1, none⟩) 70000 70000, .int .i64 a, .int .u16 v] W fun e w' => e = .returned (.bool true) ∧ Fr [] W w' := by
                    intro W a v hW hv
                    refine tells_any (some ⟨gb, 1, none⟩) 70000 70000 (zs.drop 1) a v W (by rw [List.length_drop, hzs.len]) ?_ (by simp) (by omega) hv
                    rw [← B8_drop]
                    exact ((Rd.own hzs).fr hW (by simp)).drop 1
                  have HT := Lib.hid hT
                  have HT1 := Lib.hid hT1
                  have HFJ := Lib.hid hFj
                  clear hzs hT hT1 hFj
                  go_wp2_with fail
                  refine (HT.out _ 69998 1 (Fr.refl _ _) (by decide)).mono ?_
                  rintro e w1 ⟨rfl, hG⟩
                  go_wp2_with fail
                  refine (HT1.out _ 69998 65535 hG (by decide)).mono ?_
                  rintro e w2 ⟨rfl, hG2⟩
                  replace hG := hG.trans hG2
                  clear hG2
                  go_wp2_with fail
                  refine (HT.out _ 70000 0 hG (by decide)).mono ?_
                  rintro e w3 ⟨rfl, hG2⟩
                  replace hG := hG.trans hG2
                  clear hG2
                  go_wp2_with fail
                  refine (HT.out _ 9223372036854775807 0 hG (by decide)).mono ?_
                  rintro e w4 ⟨rfl, hG2⟩
                  replace hG := hG.trans hG2
                  clear hG2
                  go_wp2_with fail
                  refine (HT.out _ (-9223372036854775808) 0 hG (by decide)).mono ?_
                  rintro e w5 ⟨rfl, hG2⟩
                  replace hG := HFJ.out.trans (hG.trans hG2)
                  clear hG2 hgj
                  go_wp2_with fail
                  go_roundw
                  case rel => exact ⟨k + 1, by omega, by go_num, hG⟩
                  case measure => simp [intOf]; omega
            · have hge : ¬ ((k : Int) < 3) := by omega
              replace hF := hFc.trans hF
              go_wp2_with fail
              refine (numbers_any none 0 0 [] 0 0 0 0 0 0 (-9223372036854775808) wr rfl (by simp) (Rd.nil _ _) (fun _ => rfl) (by decide) (by decide) (by decide) (by decide) (by decide) (by decide)).mono ?_
              rintro e w1 ⟨rfl, hG⟩
              replace hF := hF.trans hG
              obtain ⟨wm, hmk, hrm, hFm⟩ := make16 w1
              have HRM := Lib.hid hrm
              replace hF := hF.trans hFm
              clear hG hrm hFm
              generalize w1.heap.size = gm at hmk HRM
              go_wp2_with fail
              refine (numbers_any _ 70000 70000 (List.replicate 70000 0) 0 65535 0 4294967295 0 255 65536 wm (List.length_replicate ..) (by intro a ha; rw [List.eq_of_mem_replicate ha]; decide) HRM.out (by simp) (by decide) (by decide) (by decide) (by decide) (by decide) (by decide)).mono ?_
              rintro e w2 ⟨rfl, hG⟩
              replace hF := hF.trans hG
              clear hG
              go_wp2_with fail
              refine (awake_any w2).mono ?_
              rintro e w3 ⟨rfl, hG⟩
              go_wp2_with fail
              go_ret
              exact ⟨rfl, hF.trans hG⟩
end Go.Proofs.Ytdkpmbefnfdbkaa
