/- The marks of what is lent. -/
import Derived.Test.YtbgikpbhjeanoaaAw
namespace Go.Proofs.Ytbgikpbhjeanoaa
open Go.RowKit

set_option maxRecDepth 20000 in
set_option maxHeartbeats 400000 in
theorem mark_any (i : Nat) (hi : i < 100000000) (w : World) :
    Calls Try.prog 69 #[.int .i64 1, .int .i64 i] w fun e w' => e = .returned (.int .i64 (8000024 + i)) ∧ w = w' := by
  have h1 : IntKind.i64.wrap (8000024 + (i : Int)) = 8000024 + (i : Int) := IntWalk.i64_in _ (by omega)
  go_enter Try.func69, Try.ntmps69
  go_wp2
  go_ret
  exact ⟨rfl, rfl⟩

/-- The mark of place i. -/
def mkV (i : Nat) : Int := IntKind.u64.wrap ((8000024 + (i : Int)) * 11400714819323198485) / 72057594037927936 % 256
def mk8 (i : Nat) : UInt8 := UInt8.ofNat (mkV i).toNat
theorem mk8_val (i : Nat) : mkV i = ((mk8 i).toNat : Int) := by
  have h1 : 0 ≤ mkV i := Int.emod_nonneg _ (by decide)
  have h2 : mkV i < 256 := Int.emod_lt_of_pos _ (by decide)
  unfold mk8
  simp only [UInt8.toNat_ofNat']
  omega
/-- The first k marks. -/
def mks (k : Nat) : List UInt8 := (List.range k).map mk8
theorem mks_succ (k : Nat) : mks (k + 1) = mks k ++ [mk8 k] := by simp [mks, List.range_succ]
theorem mks_length (k : Nat) : (mks k).length = k := by simp [mks]
theorem mks_get {k i : Nat} (h : i < k) : (mks k)[i]? = some (mk8 i) := by simp [mks, h]

set_option maxRecDepth 20000 in
set_option maxHeartbeats 400000 in
theorem markB_any (z : Int) (i : Nat) (hz : z = i) (hi : i < 100000000) (w : World) :
    Calls Try.prog 64 #[.int .i64 1, .int .i64 z] w fun e w' => e = .returned (.int .u8 (mk8 i).toNat) ∧ w = w' := by
  subst hz
  rw [← mk8_val]
  go_enter Try.func64, Try.ntmps64
  go_wp2_with fail
  refine (mark_any i hi w).mono ?_
  rintro e w' ⟨rfl, rfl⟩
  go_wp2
  go_ret
  exact ⟨rfl, rfl⟩
theorem markB_quiet (z : Int) (i : Nat) (hz : z = i) (hi : i < 100000000) (w : World) (p q : Nat) :
    Calls Try.prog 64 #[.int .i64 1, .int .i64 z] (w.drewN (p + q)) fun e w' => e = .returned (.int .u8 (mk8 i).toNat) ∧ ∃ j, w' = w.drewN (p + j) :=
  (markB_any z i hz hi _).mono fun _ _ h => ⟨h.1, _, h.2.symm⟩

/-- What is lent reads as it did, with marks behind it. -/
def LentP (w : World) (bs : List UInt8) (n : Nat) (e : Ending) (w' : World) : Prop :=
  ∃ g c, e = .returned (.slice (some ⟨g, 0, none⟩) n c) ∧ w.heap.size ≤ g ∧ n + 12 ≤ c ∧ c ≤ maxLen ∧ Rd w' (some ⟨g, 0, none⟩) (B8 (bs ++ mks 12)) ∧ Fr [] w w'

theorem i64_12 {n : Nat} (h : n ≤ 140737488351232) : IntKind.i64.wrap ((n : Int) + 12) = (n : Int) + 12 := IntWalk.i64_in _ (by omega)

set_option maxRecDepth 20000 in
set_option maxHeartbeats 1000000 in
theorem lent_any (A : Option Addr) (n c : Nat) (bs : List UInt8) (w : World) (hl : bs.length = n) (hrd : Rd w A (B8 bs)) (hnil : A = none → c = 0) (hn : n ≤ 140737488351232) :
    Calls Try.prog 38 #[.slice A n c] w (LentP w bs n) := by
  obtain ⟨i0, hi, hz0, hz1, hz2⟩ := info_parts info8
  obtain ⟨w1, hm, ho, hg⟩ := run_make_own (P := Try.prog) w w.heap.size 22 5 i0 (.int .u8 0) 1 Try.underlying22 hi hz0 hz1 .i64 .i64 (n + 12) (by rw [hz2]; omega) (by unfold maxLen; omega) (Nat.le_refl _)
  have hF : Fr [] w w1 := (Fr.refl _ w).grown hg (by simp)
  have hm' : Sem.run Try.prog (Instr.makeSlice 22 (Value.int IntKind.i64 0) (Value.int IntKind.i64 ((n : Int) + 12))) w = .ok (.slice (some ⟨w.heap.size, 0, none⟩) 0 (n + 12)) w1 := by
    rw [← hm]; rfl
  have hsz1 := hF.size
  obtain ⟨v2, w2, hr2, ho2, hg2, -⟩ := app_run el8 w1 w.heap.size 22 _ 0 _ ho A n c (B8 bs) (by rw [B8_length]; omega) (hrd.fr hF (by simp)) (B8_one bs) hnil (by unfold maxLen; omega) (by omega) (by omega)
  have hF2 : Fr [] w w2 := hF.grown hg2 (fun g hgg => .inr (ho.lt g hgg).1)
  rw [List.nil_append, Nat.zero_add] at ho2
  have HO := Lib.hid ho2
  have Hl := Lib.hid hl
  have hw12 := i64_12 hn
  clear hm ho hg hi hz0 hz1 hz2 hl i0 ho2 hg2 hF
  go_enter Try.func38, Try.ntmps38
  go_wp2_with (at_builtin; refine wpList_app rfl _ _ _ rfl hr2 rfl rfl ?_)
  go_loopw [3, 4] (fun v i wr => ∃ k : Nat, k ≤ 12 ∧ i = .int .i64 k ∧ wr.ownsRow w.heap.size 5 1 v (n + k) (B8 (bs ++ mks k)) ∧ Fr [] w wr) (fun _ i _ => 12 - (intOf i).toNat)
  case atStart => exact ⟨0, Nat.zero_le _, rfl, by simpa [mks] using HO.out, hF2⟩
  case round =>
    obtain ⟨k, hk, rfl, hown, hFr⟩ := hrel
    by_cases hlt : k < 12
    · have hlt' : ((k : Int) < 12) := by omega
      have hszr := hFr.size
      obtain ⟨v', w3, hr, ho3, hg3, -⟩ := app_run el8 (wr.alloc (.cells #[.int .u8 (mk8 k).toNat] 5)) w.heap.size 22 _ (n + k) _ (hown.alloc _)
        (some ⟨wr.heap.size, 0, none⟩) 1 1 (B8 [mk8 k]) rfl (rd_new wr _ _ 0) (B8_one _) (by simp) (by unfold maxLen; omega) (by omega) (by simp; omega)
      have hfin : w3.ownsRow w.heap.size 5 1 v' (n + (k + 1)) (B8 (bs ++ mks (k + 1))) := by
        rw [mks_succ, ← List.append_assoc, B8_append (bs ++ mks k)]
        exact ho3
      have hFr3 : Fr [] w w3 := (hFr.alloc _).grown hg3 (fun g hgg => .inr (hown.lt g hgg).1)
      have HO3 := Lib.hid hfin
      clear ho3 hg3 hfin hown hFr
      go_wp2_with fail
      refine (markB_any _ k rfl (by omega) _).mono ?_
      rintro e w' ⟨rfl, rfl⟩
      go_wp2_with (at_builtin; refine wpList_app rfl _ _ _ rfl hr rfl rfl ?_)
      go_roundw
      case rel => exact ⟨k + 1, by omega, by go_num, HO3.out, hFr3⟩
      case measure => simp [intOf]; omega
    · obtain rfl : k = 12 := by omega
      obtain ⟨hl2, hcase⟩ := hown
      rcases hcase with ⟨-, h⟩ | ⟨g, cap, cur, rfl, hgb, hgg, h1, h2, h3, h4⟩
      · exact absurd h (by omega)
      · have hown : wr.ownsRow w.heap.size 5 1 (.slice (some ⟨g, 0, none⟩) (n + 12) cap) (n + 12) (B8 (bs ++ mks 12)) := ⟨hl2, .inr ⟨g, cap, cur, rfl, hgb, hgg, h1, h2, h3, h4⟩⟩
        have hR := Rd.own hown
        clear hown hgg h3 h4 hl2 hrd
        have hcn : (n : Int) ≤ (cap : Int) := by omega
        go_wp2
        go_ret
        exact ⟨g, cap, rfl, hgb, h1, h2, hR, hFr⟩
theorem i64_sub {k n : Nat} (h : n ≤ k) (h2 : k ≤ 9223372036854775000) : IntKind.i64.wrap ((k : Int) - (n : Int)) = (k : Int) - (n : Int) := IntWalk.i64_in _ (by omega)
def KeptP (w : World) (e : Ending) (w' : World) : Prop := e = .returned (.bool true) ∧ SameW w w'

set_option maxRecDepth 20000 in
set_option maxHeartbeats 1000000 in
theorem kept_any (g : Nat) (B : Option Addr) (n c d : Nat) (bs : List UInt8) (w : World) (hl : bs.length = n) (ha : Rd w (some ⟨g, 0, none⟩) (B8 (bs ++ mks 12))) (hb : Rd w B (B8 bs)) (hn : n ≤ 140737488351232) (hc : n + 12 ≤ c) :
    Calls Try.prog 39 #[.slice (some ⟨g, 0, none⟩) n c, .slice B n d] w (KeptP w) := by
  have H1 := Lib.hid hl
  have hw12 := i64_12 hn
  have hcn : (n : Int) + 12 ≤ (c : Int) := by omega
  have hne : ((n : Int) == (n : Int)) = true := by simp
  clear hl
  go_enter Try.func39, Try.ntmps39
  go_wp2
  go_loopw [6] (fun i wr => ∃ k : Nat, k ≤ n + 12 ∧ i = .int .i64 k ∧ SameW w wr) (fun i _ => n + 12 - (intOf i).toNat)
  case atStart => exact ⟨0, Nat.zero_le _, rfl, 0, rfl⟩
  case round =>
    obtain ⟨k, hk, rfl, nq, rfl⟩ := hrel
    by_cases hlt : k < n + 12
    · have hi0 : (0 : Int) ≤ (k : Int) ∧ (k : Int) < (n : Int) + 12 := by omega
      by_cases hkn : k < n
      · have hkx : k < bs.length := by have := H1.out; omega
        obtain ⟨b2, o2, rfl⟩ := rd_addr hb (by omega)
        obtain ⟨x, hx0⟩ : ∃ x, bs[k]? = some x := ⟨_, List.getElem?_eq_getElem hkx⟩
        have hc1 := rdj ha k x (by rw [List.getElem?_append_left hkx]; exact hx0)
        rw [Nat.zero_add] at hc1
        have hc2 := rdj hb k x hx0
        have hq : (((x.toNat : Int)) == (x.toNat : Int)) = true := by simp
        have hd1 : decide ((k : Int) < (n : Int)) = true := by simp; omega
        have hd2 : decide (n ≤ k) = false := by simp; omega
        have hd4 : ¬ (n ≤ k) := by omega
        clear ha hb hx0
        go_wp2
        go_quiet (fail)
        go_wp2
        go_roundw
        case rel => exact ⟨k + 1, by omega, by go_num, ⟨_, rfl⟩⟩
        case measure => simp [intOf]; omega
      · have hc1 := rdj ha k (mk8 (k - n)) (by rw [List.getElem?_append_right (by have := H1.out; omega), H1.out]; exact mks_get (by omega))
        rw [Nat.zero_add] at hc1
        have hq : ((((mk8 (k - n)).toNat : Int)) == ((mk8 (k - n)).toNat : Int)) = true := by simp
        have hd1 : decide ((k : Int) < (n : Int)) = false := by simp; omega
        have hd2 : decide (n ≤ k) = true := by simp; omega
        have hd4 : n ≤ k := by omega
        have hkm : k - n < 100000000 := by omega
        have hws : IntKind.i64.wrap ((k : Int) - (n : Int)) = ((k - n : Nat) : Int) := by rw [i64_sub (by omega) (by omega)]; omega
        clear ha hb
        generalize hx : mk8 (k - n) = x at hc1 hq
        have hM := markB_quiet _ (k - n) rfl hkm w nq
        rw [hx] at hM
        clear hx
        go_wp2
        go_quiet ((go_at_call 64; exact hM _))
        go_wp2
        go_roundw
        case rel => exact ⟨k + 1, by omega, by go_num, ⟨_, rfl⟩⟩
        case measure => simp [intOf]; omega
    · obtain rfl : k = n + 12 := by omega
      go_wp2
      go_ret
      exact ⟨rfl, nq, rfl⟩
end Go.Proofs.Ytbgikpbhjeanoaa
