/- The reference's texts. -/
import Derived.Test.YtbgikpbhjeanoaaSets
import Derived.Test.YtbgikpbhjeanoaaTxt
import Derived.StillTailTactics
namespace Go.Proofs.Ytbgikpbhjeanoaa
open Go.RowKit

theorem dg_nat : ∀ n, n < 256 → dg (UInt8.ofNat n) = (if 48 ≤ n ∧ n ≤ 57 then (n : Int) - 48 else if 97 ≤ n ∧ n ≤ 102 then (n : Int) - 97 + 10 else -1) := by decide +kernel
theorem dg_eq (c : UInt8) : dg c = (if 48 ≤ c.toNat ∧ c.toNat ≤ 57 then (c.toNat : Int) - 48 else if 97 ≤ c.toNat ∧ c.toNat ≤ 102 then (c.toNat : Int) - 97 + 10 else -1) := by
  have h := dg_nat c.toNat c.toNat_lt
  rwa [UInt8.ofNat_toNat] at h

set_option maxRecDepth 20000 in
set_option maxHeartbeats 400000 in
theorem rdigit_any (c : UInt8) (w : World) :
    Calls Try.prog 67 #[.int .u8 c.toNat] w fun e w' => e = .returned (.int .i64 (dg c)) ∧ w = w' := by
  have hlt := c.toNat_lt
  rw [dg_eq]
  generalize c.toNat = n at hlt ⊢
  by_cases h1 : 48 ≤ n ∧ n ≤ 57
  · rw [if_pos h1]
    have hd1 : decide ((48 : Int) ≤ (n : Int)) = true := by simp; omega
    have hd2 : decide ((n : Int) ≤ 57) = true := by simp; omega
    have hw1 : IntKind.i64.wrap ((n : Int) - 48) = (n : Int) - 48 := IntWalk.i64_in _ (by omega)
    have hw0 : IntKind.i64.wrap (n : Int) = (n : Int) := IntWalk.i64_in _ (by omega)
    go_enter Try.func67, Try.ntmps67
    go_wp2
    go_ret
    exact ⟨rfl, rfl⟩
  · rw [if_neg h1]
    by_cases h2 : 97 ≤ n ∧ n ≤ 102
    · rw [if_pos h2]
      have hd1 : decide ((48 : Int) ≤ (n : Int)) = true := by simp; omega
      have hd2 : decide ((n : Int) ≤ 57) = false := by simp; omega
      have hd3 : decide ((97 : Int) ≤ (n : Int)) = true := by simp; omega
      have hd4 : decide ((n : Int) ≤ 102) = true := by simp; omega
      have hw1 : IntKind.i64.wrap ((n : Int) - 97) = (n : Int) - 97 := IntWalk.i64_in _ (by omega)
      have hw2 : IntKind.i64.wrap ((n : Int) - 97 + 10) = (n : Int) - 97 + 10 := IntWalk.i64_in _ (by omega)
      have hw0 : IntKind.i64.wrap (n : Int) = (n : Int) := IntWalk.i64_in _ (by omega)
      go_enter Try.func67, Try.ntmps67
      go_wp2
      go_ret
      exact ⟨rfl, rfl⟩
    · rw [if_neg h2]
      go_enter Try.func67, Try.ntmps67
      rcases (show n < 48 ∨ (58 ≤ n ∧ n < 97) ∨ 103 ≤ n by omega) with h | h | h
      · have hd1 : decide ((48 : Int) ≤ (n : Int)) = false := by simp; omega
        have hd3 : decide ((97 : Int) ≤ (n : Int)) = false := by simp; omega
        go_wp2; go_ret; exact ⟨rfl, rfl⟩
      · have hd1 : decide ((48 : Int) ≤ (n : Int)) = true := by simp; omega
        have hd2 : decide ((n : Int) ≤ 57) = false := by simp; omega
        have hd3 : decide ((97 : Int) ≤ (n : Int)) = false := by simp; omega
        go_wp2; go_ret; exact ⟨rfl, rfl⟩
      · have hd1 : decide ((48 : Int) ≤ (n : Int)) = true := by simp; omega
        have hd2 : decide ((n : Int) ≤ 57) = false := by simp; omega
        have hd3 : decide ((97 : Int) ≤ (n : Int)) = true := by simp; omega
        have hd4 : decide ((n : Int) ≤ 102) = false := by simp; omega
        go_wp2; go_ret; exact ⟨rfl, rfl⟩

theorem hx_lo {k : Nat} (h : k < 10) : ((hx k).toNat : Int) = 48 + (k : Int) := by
  have h' : k = 0 ∨ k = 1 ∨ k = 2 ∨ k = 3 ∨ k = 4 ∨ k = 5 ∨ k = 6 ∨ k = 7 ∨ k = 8 ∨ k = 9 := by omega
  rcases h' with rfl | rfl | rfl | rfl | rfl | rfl | rfl | rfl | rfl | rfl <;> rfl
theorem hx_hi {k : Nat} (h : 10 ≤ k) (h2 : k < 16) : ((hx k).toNat : Int) = 97 + (k : Int) - 10 := by
  have h' : k = 10 ∨ k = 11 ∨ k = 12 ∨ k = 13 ∨ k = 14 ∨ k = 15 := by omega
  rcases h' with rfl | rfl | rfl | rfl | rfl | rfl <;> rfl

theorem rhex_long (A : Option Addr) (n c : Nat) (w : World) (hn : 131072 < n) :
    Calls Try.prog 49 #[.slice A n c] w fun e w' => e = .returned (.tuple #[.string ⟨#[]⟩, .int .i64 3]) ∧ w = w' := by
  go_enter Try.func49, Try.ntmps49
  go_wp2
  go_ret2
  exact ⟨rfl, rfl⟩

set_option maxRecDepth 20000 in
set_option maxHeartbeats 2000000 in
theorem rhex_yes (A : Option Addr) (n c : Nat) (bs : List UInt8) (w : World) (hl : bs.length = n) (hrd : Rd w A (B8 bs)) (hn : n ≤ 131072) :
    Calls Try.prog 49 #[.slice A n c] w (HexYes w bs) := by
  have Hl := Lib.hid hl
  clear hl
  go_enter Try.func49, Try.ntmps49
  go_wp2
  go_loopw [4, 5] (fun v i wr => ∃ k : Nat, k ≤ n ∧ i = .int .i64 k ∧ wr.ownsRow w.heap.size 5 1 v (2 * k) (B8 (hexOf (bs.take k))) ∧ Fr [] w wr) (fun _ i _ => n - (intOf i).toNat)
  case atStart => exact ⟨0, Nat.zero_le _, rfl, World.ownsRow_nil _ _ _ _, Fr.refl _ _⟩
  case round =>
    obtain ⟨k, hk, rfl, hown, hFr⟩ := hrel
    by_cases hlt : k < n
    · have hkl : k < bs.length := by have := Hl.out; omega
      obtain ⟨b, o, rfl⟩ := rd_addr hrd (by omega)
      obtain ⟨x, hx0⟩ : ∃ x, bs[k]? = some x := ⟨_, List.getElem?_eq_getElem hkl⟩
      have hcell := rdj (hrd.fr hFr (by simp)) k x hx0
      have hxlt := b8lt x
      have HS : Hid (bs.take (k + 1) = bs.take k ++ [x]) := by show _ = _; rw [List.take_add_one, hx0]; rfl
      have hszr := hFr.size
      generalize hy1 : hx (x.toNat / 16) = y1
      generalize hy2 : hx (x.toNat % 16) = y2
      obtain ⟨v1, w1, hr1, ho1, hg1, -⟩ := app_run el8 (wr.alloc (.cells #[.int .u8 y1.toNat] 5)) w.heap.size 22 _ (2 * k) _ (hown.alloc _)
        (some ⟨wr.heap.size, 0, none⟩) 1 1 (B8 [y1]) rfl (rd_new wr _ _ 0) (B8_one _) (by simp) (by unfold maxLen; omega) (by omega) (by simp; omega)
      have hFr1 : Fr [] w w1 := (hFr.alloc _).grown hg1 (fun g hgg => .inr (hown.lt g hgg).1)
      have hszr1 := hFr1.size
      obtain ⟨v2, w2, hr2, ho2, hg2, -⟩ := app_run el8 (w1.alloc (.cells #[.int .u8 y2.toNat] 5)) w.heap.size 22 _ (2 * k + 1) _ (ho1.alloc _)
        (some ⟨w1.heap.size, 0, none⟩) 1 1 (B8 [y2]) rfl (rd_new w1 _ _ 0) (B8_one _) (by simp) (by unfold maxLen; omega) (by omega) (by simp; omega)
      have hFr2 : Fr [] w w2 := (hFr1.alloc _).grown hg2 (fun g hgg => .inr (ho1.lt g hgg).1)
      have hcell1 := rdj (hrd.fr hFr1 (by simp)) k x (by assumption)
      have hfin : w2.ownsRow w.heap.size 5 1 v2 (2 * (k + 1)) (B8 (hexOf (bs.take (k + 1)))) := by
        rw [HS.out, hexOf_snoc, B8_append, hy1, hy2, show [y1, y2] = [y1] ++ [y2] from rfl, B8_append, ← List.append_assoc]
        exact ho2
      have HO2 := Lib.hid hfin
      clear ho1 ho2 hg1 hg2 hfin hown hrd hFr hFr1
      have hw1 : IntKind.u8.wrap (97 + (x.toNat : Int) / 16) = 97 + (x.toNat : Int) / 16 := by simp only [IntKind.wrap, IntKind.bits, IntKind.signed]; simp; omega
      have hw2 : IntKind.u8.wrap (97 + (x.toNat : Int) % 16) = 97 + (x.toNat : Int) % 16 := by simp only [IntKind.wrap, IntKind.bits, IntKind.signed]; simp; omega
      by_cases h10 : x.toNat / 16 < 10 <;> by_cases h20 : x.toNat % 16 < 10
      · have h10' : (x.toNat : Int) / 16 < 10 := by omega
        have h20' : (x.toNat : Int) % 16 < 10 := by omega
        have e1 : (y1.toNat : Int) = 48 + (x.toNat : Int) / 16 := by rw [← hy1, hx_lo h10]; omega
        have e2 : (y2.toNat : Int) = 48 + (x.toNat : Int) % 16 := by rw [← hy2, hx_lo h20]; omega
        rw [e1] at hr1
        rw [e2] at hr2
        go_wp2
        refine wp_loop_rounds 3 ?_
        rw [rounds_succ]
        go_wp2_with (at_builtin; refine wpList_app rfl _ _ _ rfl hr1 rfl rfl ?_)
        rw [rounds_succ]
        go_wp2_with (at_builtin; refine wpList_app rfl _ _ _ rfl hr2 rfl rfl ?_)
        rw [rounds_succ]
        go_wp2
        go_roundw
        case rel => exact ⟨k + 1, by omega, by go_num, HO2.out, hFr2⟩
        case measure => simp [intOf]; omega
      · have h10' : (x.toNat : Int) / 16 < 10 := by omega
        have h20' : ¬ ((x.toNat : Int) % 16 < 10) := by omega
        have e1 : (y1.toNat : Int) = 48 + (x.toNat : Int) / 16 := by rw [← hy1, hx_lo h10]; omega
        have e2 : (y2.toNat : Int) = 97 + (x.toNat : Int) % 16 - 10 := by rw [← hy2, hx_hi (by omega) (by omega)]; omega
        rw [e1] at hr1
        rw [e2] at hr2
        go_wp2
        refine wp_loop_rounds 3 ?_
        rw [rounds_succ]
        go_wp2_with (at_builtin; refine wpList_app rfl _ _ _ rfl hr1 rfl rfl ?_)
        rw [rounds_succ]
        go_wp2_with (at_builtin; refine wpList_app rfl _ _ _ rfl hr2 rfl rfl ?_)
        rw [rounds_succ]
        go_wp2
        go_roundw
        case rel => exact ⟨k + 1, by omega, by go_num, HO2.out, hFr2⟩
        case measure => simp [intOf]; omega
      · have h10' : ¬ ((x.toNat : Int) / 16 < 10) := by omega
        have h20' : (x.toNat : Int) % 16 < 10 := by omega
        have e1 : (y1.toNat : Int) = 97 + (x.toNat : Int) / 16 - 10 := by rw [← hy1, hx_hi (by omega) (by omega)]; omega
        have e2 : (y2.toNat : Int) = 48 + (x.toNat : Int) % 16 := by rw [← hy2, hx_lo h20]; omega
        rw [e1] at hr1
        rw [e2] at hr2
        go_wp2
        refine wp_loop_rounds 3 ?_
        rw [rounds_succ]
        go_wp2_with (at_builtin; refine wpList_app rfl _ _ _ rfl hr1 rfl rfl ?_)
        rw [rounds_succ]
        go_wp2_with (at_builtin; refine wpList_app rfl _ _ _ rfl hr2 rfl rfl ?_)
        rw [rounds_succ]
        go_wp2
        go_roundw
        case rel => exact ⟨k + 1, by omega, by go_num, HO2.out, hFr2⟩
        case measure => simp [intOf]; omega
      · have h10' : ¬ ((x.toNat : Int) / 16 < 10) := by omega
        have h20' : ¬ ((x.toNat : Int) % 16 < 10) := by omega
        have e1 : (y1.toNat : Int) = 97 + (x.toNat : Int) / 16 - 10 := by rw [← hy1, hx_hi (by omega) (by omega)]; omega
        have e2 : (y2.toNat : Int) = 97 + (x.toNat : Int) % 16 - 10 := by rw [← hy2, hx_hi (by omega) (by omega)]; omega
        rw [e1] at hr1
        rw [e2] at hr2
        go_wp2
        refine wp_loop_rounds 3 ?_
        rw [rounds_succ]
        go_wp2_with (at_builtin; refine wpList_app rfl _ _ _ rfl hr1 rfl rfl ?_)
        rw [rounds_succ]
        go_wp2_with (at_builtin; refine wpList_app rfl _ _ _ rfl hr2 rfl rfl ?_)
        rw [rounds_succ]
        go_wp2
        go_roundw
        case rel => exact ⟨k + 1, by omega, by go_num, HO2.out, hFr2⟩
        case measure => simp [intOf]; omega
    · obtain rfl : k = n := by omega
      have htk : bs.take k = bs := List.take_of_length_le (by rw [Hl.out]; exact Nat.le_refl _)
      rw [htk] at hown
      obtain ⟨A2, c2, rfl, -⟩ := own_slice hown
      have hcv := conv_rd (P := Try.prog) (c := c2) Try.underlying22 Try.underlying5 Try.underlying9 (by rw [hexOf_length, Hl.out]) (Rd.own hown)
      clear hown htk hrd
      go_wp2
      go_ret2
      exact ⟨rfl, hFr⟩
end Go.Proofs.Ytbgikpbhjeanoaa
