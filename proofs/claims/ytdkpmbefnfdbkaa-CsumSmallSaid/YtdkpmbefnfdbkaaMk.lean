/- The marks of what is lent; LentBytes, KeptBytes. -/
import Derived.Test.YtdkpmbefnfdbkaaConc
import Derived.Test.YtdkpmbefnfdbkaaTwo
namespace Go.Proofs.Ytdkpmbefnfdbkaa
open Go.RowKit

theorem i64_i {z : Int} (h0 : -9223372036854775808 ≤ z) (h1 : z ≤ 9223372036854775807) : IntKind.i64.wrap z = z := IntWalk.i64_in _ (by omega)
def mm (k i : Nat) : Nat := 1000003 * (k + 7) + i
set_option maxRecDepth 20000 in
set_option maxHeartbeats 400000 in
theorem mark_any (z y : Int) (k i : Nat) (hz : z = k) (hy : y = i) (hk : k ≤ 100000) (hi : i ≤ 200000000000000) (w : World) :
    Calls Try.prog 55 #[.int .i64 z, .int .i64 y] w fun e w' => e = .returned (.int .i64 (mm k i : Nat)) ∧ w = w' := by
  subst hz hy
  have h1 : IntKind.i64.wrap ((k : Int) + 7) = (k : Int) + 7 := i64_i (by omega) (by omega)
  have h2 : IntKind.i64.wrap (1000003 * ((k : Int) + 7)) = 1000003 * ((k : Int) + 7) := i64_i (by omega) (by omega)
  have h3 : IntKind.i64.wrap (1000003 * ((k : Int) + 7) + (i : Int)) = 1000003 * ((k : Int) + 7) + (i : Int) := i64_i (by omega) (by omega)
  go_enter Try.func55, Try.ntmps55
  go_wp2
  go_ret
  exact ⟨ret_int (by unfold mm; omega), rfl⟩

/-- The mark of place i of slice k. -/
def mkV (M : Nat) : Int := IntKind.u64.wrap (IntKind.u64.wrap (M : Int) * 11400714819323198485) / 72057594037927936 % 256
def mk8 (k i : Nat) : UInt8 := UInt8.ofNat (mkV (mm k i)).toNat
theorem mk8_val (k i : Nat) : mkV (mm k i) = ((mk8 k i).toNat : Int) := by
  have h1 : 0 ≤ mkV (mm k i) := Int.emod_nonneg _ (by decide)
  have h2 : mkV (mm k i) < 256 := Int.emod_lt_of_pos _ (by decide)
  unfold mk8
  simp only [UInt8.toNat_ofNat']
  omega
/-- The first n marks of slice k. -/
def mks (k n : Nat) : List UInt8 := (List.range n).map (mk8 k)
theorem mks_succ (k n : Nat) : mks k (n + 1) = mks k n ++ [mk8 k n] := by simp [mks, List.range_succ]
theorem mks_length (k n : Nat) : (mks k n).length = n := by simp [mks]
theorem mks_get {k n i : Nat} (h : i < n) : (mks k n)[i]? = some (mk8 k i) := by simp [mks, h]
theorem mks_take {k n m : Nat} (h : m ≤ n) : (mks k n).take m = mks k m := by
  apply List.ext_getElem?
  intro i
  rw [List.getElem?_take]
  split
  · rw [mks_get (by omega), mks_get (by assumption)]
  · rw [List.getElem?_eq_none (by rw [mks_length]; omega)]

set_option maxRecDepth 20000 in
set_option maxHeartbeats 400000 in
theorem markB_any (z y : Int) (k i : Nat) (hz : z = k) (hy : y = i) (hk : k ≤ 100000) (hi : i ≤ 200000000000000) (w : World) :
    Calls Try.prog 49 #[.int .i64 z, .int .i64 y] w fun e w' => e = .returned (.int .u8 (mk8 k i).toNat) ∧ w = w' := by
  have hM := mark_any z y k i hz hy hk hi w
  rw [← mk8_val]
  generalize mm k i = M at hM ⊢
  clear hz hy
  go_enter Try.func49, Try.ntmps49
  go_wp2_with fail
  refine hM.mono ?_
  rintro e w' ⟨rfl, rfl⟩
  clear hM
  go_wp2_with fail
  go_ret
  exact ⟨rfl, rfl⟩
theorem markB_quiet (z y : Int) (k i : Nat) (hz : z = k) (hy : y = i) (hk : k ≤ 100000) (hi : i ≤ 200000000000000) (w : World) (p : Nat) :
    Calls Try.prog 49 #[.int .i64 z, .int .i64 y] (w.drewN p) fun e w' => e = .returned (.int .u8 (mk8 k i).toNat) ∧ ∃ j, w' = w.drewN j :=
  (markB_any z y k i hz hy hk hi _).mono fun _ _ h => ⟨h.1, _, h.2.symm⟩
theorem markB_quiet2 (z y : Int) (k i : Nat) (hz : z = k) (hy : y = i) (hk : k ≤ 100000) (hi : i ≤ 200000000000000) (w : World) (p q : Nat) :
    Calls Try.prog 49 #[.int .i64 z, .int .i64 y] (w.drewN (p + q)) fun e w' => e = .returned (.int .u8 (mk8 k i).toNat) ∧ ∃ j, w' = w.drewN (p + j) :=
  (markB_any z y k i hz hy hk hi _).mono fun _ _ h => ⟨h.1, _, h.2.symm⟩

/-- What is lent reads as it did, with marks behind it, in a row of its own. -/
def LentP (w : World) (bs : List UInt8) (n : Nat) (e : Ending) (w' : World) : Prop :=
  ∃ g c, e = .returned (.slice (some ⟨g, 0, none⟩) n c) ∧ n + 12 ≤ c ∧ w'.ownsRow w.heap.size 5 1 (.slice (some ⟨g, 0, none⟩) (n + 12) c) (n + 12) (B8 (bs ++ mks 1 12)) ∧ Fr [] w w'

set_option maxRecDepth 20000 in
set_option maxHeartbeats 1000000 in
theorem lent_any (A : Option Addr) (n c : Nat) (bs : List UInt8) (w : World) (hl : bs.length = n) (hrd : Rd w A (B8 bs)) (hnil : A = none → c = 0) (hn : n ≤ 140737488351232) :
    Calls Try.prog 26 #[.slice A n c] w (LentP w bs n) := by
  obtain ⟨i0, hi, hz0, hz1, hz2⟩ := info_parts info8
  obtain ⟨w1, hm, ho, hg⟩ := run_make_own (P := Try.prog) w w.heap.size 22 5 i0 (.int .u8 0) 1 Try.underlying22 hi hz0 hz1 .i64 .i64 (n + 12) (by rw [hz2]; omega) (by unfold maxLen; omega) (Nat.le_refl _)
  have hF : Fr [] w w1 := (Fr.refl _ w).grown hg (by simp)
  have hm' : Sem.run Try.prog (Instr.makeSlice 22 (Value.int IntKind.i64 0) (Value.int IntKind.i64 ((n : Int) + 12))) w = .ok (.slice (some ⟨w.heap.size, 0, none⟩) 0 (n + 12)) w1 := by
    rw [← hm]; rfl
  have hsz1 := hF.size
  obtain ⟨v2, w2, hr2, ho2, hg2, -⟩ := app_run el8 w1 w.heap.size 22 _ 0 _ ho A n c (B8 bs) (by rw [B8_length]; omega) (hrd.fr hF (by simp)) (B8_one bs) hnil (by unfold maxLen; omega) (by omega) (by omega)
  have hF2 : Fr [] w w2 := hF.grown hg2 (fun g hgg => .inr (ho.lt g hgg).1)
  rw [List.nil_append, Nat.zero_add] at ho2
  have HO := Lib.hid ho2
  have Hl := Lib.hid hl
  have hw12 : IntKind.i64.wrap ((n : Int) + 12) = (n : Int) + 12 := i64_i (by omega) (by omega)
  clear hm ho hg hi hz0 hz1 hz2 hl i0 ho2 hg2 hF
  go_enter Try.func26, Try.ntmps26
  go_wp2_with (at_builtin; refine wpList_app rfl _ _ _ rfl hr2 rfl rfl ?_)
  go_loopw [3, 4] (fun v i wr => ∃ k : Nat, k ≤ 12 ∧ i = .int .i64 k ∧ wr.ownsRow w.heap.size 5 1 v (n + k) (B8 (bs ++ mks 1 k)) ∧ Fr [] w wr) (fun _ i _ => 12 - (intOf i).toNat)
  case atStart => exact ⟨0, Nat.zero_le _, rfl, by simpa [mks] using HO.out, hF2⟩
  case round =>
    obtain ⟨k, hk, rfl, hown, hFr⟩ := hrel
    by_cases hlt : k < 12
    · have hlt' : ((k : Int) < 12) := by omega
      have hszr := hFr.size
      obtain ⟨v', w3, hr, ho3, hg3, -⟩ := app_run el8 (wr.alloc (.cells #[.int .u8 (mk8 1 k).toNat] 5)) w.heap.size 22 _ (n + k) _ (hown.alloc _)
        (some ⟨wr.heap.size, 0, none⟩) 1 1 (B8 [mk8 1 k]) rfl (rd_new wr _ _) (B8_one _) (by simp) (by unfold maxLen; omega) (by omega) (by simp; omega)
      have hfin : w3.ownsRow w.heap.size 5 1 v' (n + (k + 1)) (B8 (bs ++ mks 1 (k + 1))) := by
        rw [mks_succ, ← List.append_assoc, B8_append (bs ++ mks 1 k)]
        exact ho3
      have hFr3 : Fr [] w w3 := (hFr.alloc _).grown hg3 (fun g hgg => .inr (hown.lt g hgg).1)
      have HO3 := Lib.hid hfin
      clear ho3 hg3 hfin hown hFr
      go_wp2_with fail
      refine (markB_any _ _ 1 k rfl rfl (by decide) (by omega) _).mono ?_
      rintro e w' ⟨rfl, rfl⟩
      go_wp2_with (at_builtin; refine wpList_app rfl _ _ _ rfl hr rfl rfl ?_)
      go_roundw
      case rel => exact ⟨k + 1, by omega, by go_num, HO3.out, hFr3⟩
      case measure => simp [intOf]; omega
    · obtain rfl : k = 12 := by omega
      obtain ⟨g, cap, rfl, _, h1, h2⟩ := own_some hown (by omega)
      have hcn : (n : Int) ≤ (cap : Int) := by omega
      have HO4 := Lib.hid hown
      clear hown hrd
      go_wp2
      go_ret
      exact ⟨g, cap, rfl, h1, HO4.out, hFr⟩
def KeptP (w : World) (e : Ending) (w' : World) : Prop := e = .returned (.bool true) ∧ SameW w w'

set_option maxRecDepth 20000 in
set_option maxHeartbeats 1000000 in
theorem kept_any (g : Nat) (B : Option Addr) (n c d : Nat) (bs : List UInt8) (w : World) (hl : bs.length = n) (ha : Rd w (some ⟨g, 0, none⟩) (B8 (bs ++ mks 1 12))) (hb : Rd w B (B8 bs)) (hn : n ≤ 140737488351232) (hc : n + 12 ≤ c) :
    Calls Try.prog 33 #[.slice (some ⟨g, 0, none⟩) n c, .slice B n d] w (KeptP w) := by
  have H1 := Lib.hid hl
  have hw12 : IntKind.i64.wrap ((n : Int) + 12) = (n : Int) + 12 := i64_i (by omega) (by omega)
  have hcn : (n : Int) + 12 ≤ (c : Int) := by omega
  have hne : ((n : Int) == (n : Int)) = true := by simp
  clear hl
  go_enter Try.func33, Try.ntmps33
  go_wp2
  go_loopw [6] (fun i wr => ∃ k : Nat, k ≤ n + 12 ∧ i = .int .i64 k ∧ SameW w wr) (fun i _ => n + 12 - (intOf i).toNat)
  case atStart => exact ⟨0, Nat.zero_le _, rfl, 0, rfl⟩
  case round =>
    obtain ⟨k, hk, rfl, nq, rfl⟩ := hrel
    by_cases hlt : k < n + 12
    · have hi0 : (0 : Int) ≤ (k : Int) ∧ (k : Int) < (n : Int) + 12 := by omega
      by_cases hkn : k < n
      · have hkx : k < bs.length := by have := H1.out; omega
        obtain ⟨b2, o2, rfl⟩ := rd_addr8 hb (by omega)
        obtain ⟨x, hx0⟩ : ∃ x, bs[k]? = some x := ⟨_, List.getElem?_eq_getElem hkx⟩
        have hc1 := rdj ha k x (by rw [List.getElem?_append_left hkx]; exact hx0)
        rw [Nat.zero_add] at hc1
        have hc2 := rdj hb k x hx0
        have hq : (((x.toNat : Int)) == (x.toNat : Int)) = true := by simp
        have hd1 : decide ((k : Int) < (n : Int)) = true := by simp; omega
        have hd2 : decide (n ≤ k) = false := by simp; omega
        have hd4 : ¬ (n ≤ k) := by omega
        clear ha hb hx0
        go_wp2
        go_quiet (fail)
        go_wp2
        go_roundw
        case rel => exact ⟨k + 1, by omega, by go_num, ⟨_, rfl⟩⟩
        case measure => simp [intOf]; omega
      · have hc1 := rdj ha k (mk8 1 (k - n)) (by rw [List.getElem?_append_right (by have := H1.out; omega), H1.out]; exact mks_get (by omega))
        rw [Nat.zero_add] at hc1
        have hq : ((((mk8 1 (k - n)).toNat : Int)) == ((mk8 1 (k - n)).toNat : Int)) = true := by simp
        have hd1 : decide ((k : Int) < (n : Int)) = false := by simp; omega
        have hd2 : decide (n ≤ k) = true := by simp; omega
        have hd4 : n ≤ k := by omega
        have hkm : k - n ≤ 200000000000000 := by omega
        have hws : IntKind.i64.wrap ((k : Int) - (n : Int)) = ((k - n : Nat) : Int) := by rw [i64_i (by omega) (by omega)]; omega
        clear ha hb
        have hM := markB_quiet2 1 _ 1 (k - n) rfl rfl (by decide) hkm w nq
        generalize hx : mk8 1 (k - n) = x at hc1 hq hM
        clear hx
        go_wp2
        go_quiet ((go_at_call 49; exact hM _))
        go_wp2
        go_roundw
        case rel => exact ⟨k + 1, by omega, by go_num, ⟨_, rfl⟩⟩
        case measure => simp [intOf]; omega
    · obtain rfl : k = n + 12 := by omega
      go_wp2
      go_ret
      exact ⟨rfl, nq, rfl⟩
end Go.Proofs.Ytdkpmbefnfdbkaa
