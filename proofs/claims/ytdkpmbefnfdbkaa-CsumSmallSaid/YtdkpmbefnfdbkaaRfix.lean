/- The reference: Fix. -/
import Derived.Test.YtdkpmbefnfdbkaaRsum
namespace Go.Proofs.Ytdkpmbefnfdbkaa
open Go.RowKit

set_option maxRecDepth 20000 in
set_option maxHeartbeats 400000 in
theorem rfix_no (A : Option Addr) (n c : Nat) (at_ : Int) (w : World) (hn : n ≤ 140737488351232) (hb : at_ < 0 ∨ at_ % 2 ≠ 0 ∨ (n : Int) - 2 < at_) :
    Calls Try.prog 27 #[.slice A n c, .int .i64 at_] w (FixNo w) := by
  by_cases h1 : at_ < 0
  · have hd : decide (at_ < 0) = true := by simpa using h1
    go_enter Try.func27, Try.ntmps27
    go_wp2
    go_ret2
    exact ⟨rfl, rfl⟩
  · have h0 : 0 ≤ at_ := by omega
    obtain ⟨k, rfl⟩ := Int.eq_ofNat_of_zero_le h0
    have hd : decide ((k : Int) < 0) = false := by simp
    by_cases h2 : (k : Int) % 2 = 0
    · have hd4 : ((k : Int) % 2 == 1) = false := by rw [h2]; rfl
      have h3 : (n : Int) - 2 < k := by omega
      by_cases h5 : n ≤ k
      · have hd3 : decide ((n : Int) ≤ (k : Int)) = true := by simpa using h5
        have hd5 : decide (n ≤ k) = true := by simpa using h5
        clear h3 hb h1 h2 h5
        go_enter Try.func27, Try.ntmps27
        go_wp2
        go_ret2
        exact ⟨rfl, rfl⟩
      · have hd3 : decide ((n : Int) ≤ (k : Int)) = false := by simp; omega
        have hd5 : decide (n ≤ k) = false := by simp; omega
        have hw3 : IntKind.i64.wrap ((k : Int) + 2) = (k : Int) + 2 := IntWalk.i64_in _ (by omega)
        have hd6 : decide ((n : Int) < (k : Int) + 2) = true := by simp; omega
        clear h3 hb h1 h2 h5
        go_enter Try.func27, Try.ntmps27
        go_wp2
        go_ret2
        exact ⟨rfl, rfl⟩
    · have hd4 : ((k : Int) % 2 == 1) = true := by rw [show (k : Int) % 2 = 1 by omega]; rfl
      clear hb h1 h2
      go_enter Try.func27, Try.ntmps27
      go_wp2
      go_ret2
      exact ⟨rfl, rfl⟩

set_option maxRecDepth 20000 in
set_option maxHeartbeats 1000000 in
theorem rfix_yes (A : Option Addr) (n c : Nat) (xs : List UInt8) (k : Nat) (w : World) (hl : xs.length = n) (hrd : Rd w A (B8 xs)) (hnil : A = none → c = 0) (hn : n ≤ 140737488351232) (hk : k % 2 = 0) (hkn : k + 2 ≤ n) :
    Calls Try.prog 27 #[.slice A n c, .int .i64 k] w (FixYes w xs k n) := by
  have hd : decide ((k : Int) < 0) = false := by simp
  have hd4 : ((k : Int) % 2 == 1) = false := by rw [show (k : Int) % 2 = 0 by omega]; rfl
  have hd3 : decide ((n : Int) ≤ (k : Int)) = false := by simp; omega
  have hd5 : decide (n ≤ k) = false := by simp; omega
  have hw2 : IntKind.i64.wrap ((k : Int) + 2) = (k : Int) + 2 := IntWalk.i64_in _ (by omega)
  have hd6 : decide ((n : Int) < (k : Int) + 2) = false := by simp; omega
  have HL := Lib.hid hl
  have hF0 : Fr [] w (w.alloc (.cells #[] 5)) := (Fr.refl _ _).alloc _
  obtain ⟨v1, w1, hrun, ho, hg, _⟩ := app_run el8 (w.alloc (.cells #[] 5)) w.heap.size 22 (.slice (some ⟨w.heap.size, 0, none⟩) 0 0) 0 [] (World.ownsRow_lit w #[] 0 (Nat.le_refl _) (Nat.zero_le _) rfl)
    A n c (B8 xs) (by rw [B8_length]; omega) (hrd.fr hF0 (by simp)) (B8_one xs) hnil (by unfold maxLen; omega) (by omega) (by simp)
  have hF : Fr [] w w1 := hF0.trans2 (fr_grown hg) (by simp [Value.ownBlock])
  rw [Nat.zero_add, List.nil_append] at ho
  obtain ⟨g, cc, rfl, hgb, -, -⟩ := own_some ho (by omega)
  obtain ⟨x, hx0⟩ : ∃ x, xs[k]? = some x := ⟨_, List.getElem?_eq_getElem (by omega)⟩
  obtain ⟨y, hy0⟩ : ∃ y, xs[k + 1]? = some y := ⟨_, List.getElem?_eq_getElem (by omega)⟩
  have hc1 := own_cell ho (j := k) (u := .int .u8 x.toNat) (by rw [B8_get, hx0]; rfl)
  have hc2 := own_cell ho (j := k + 1) (u := .int .u8 y.toNat) (by rw [B8_get, hy0]; rfl)
  have hf1 := own_fz ho k
  have hf2 := own_fz ho (k + 1)
  have hO := own_set (own_set ho k (.int .u8 0)) (k + 1) (.int .u8 0)
  rw [B8_set xs k (hi8 0) (z := 0) rfl, B8_set _ (k + 1) (lo8 0) (z := 0) rfl, set_set _ _ _ _ (by omega), show xs.take k ++ [hi8 0, lo8 0] ++ xs.drop (k + 2) = put2 xs k 0 from rfl] at hO
  have hF2 : Fr [] w ((w1.setCell ⟨g, k, none⟩ (.int .u8 0)).setCell ⟨g, k + 1, none⟩ (.int .u8 0)) := (hF.setCell (.inr hgb) _).setCell (.inr hgb) _
  have HO := Lib.hid hO
  have hw3 : IntKind.i64.wrap ((k : Int) + 1) = (k : Int) + 1 := IntWalk.i64_in _ (by omega)
  have hi0 : (0 : Int) ≤ (k : Int) ∧ (k : Int) < (n : Int) := by omega
  have hi2 : (0 : Int) ≤ (k : Int) + 1 ∧ (k : Int) + 1 < (n : Int) := by omega
  have hi3 : ((k : Int) + 1).toNat = k + 1 := by omega
  clear hO ho hx0 hy0 hg hrd hnil hF hl
  go_enter Try.func27, Try.ntmps27
  go_wp2_with (at_builtin; refine wpList_app rfl _ _ _ rfl hrun rfl rfl ?_)
  clear hrun hc1 hc2 hf1 hf2
  generalize (w1.setCell ⟨g, k, none⟩ (.int .u8 0)).setCell ⟨g, k + 1, none⟩ (.int .u8 0) = w2 at HO hF2 ⊢
  have ho2 := HO.out
  have hl2 : (put2 xs k 0).length = n := by rw [put2_length (by rw [HL.out]; exact hkn)]; exact HL.out
  refine (rof_any (some ⟨g, 0, none⟩) n cc (put2 xs k 0) w2 hl2 (Rd.own ho2) hn).mono ?_
  rintro e w' ⟨rfl, rfl⟩
  obtain ⟨x, hx0⟩ : ∃ x, (put2 xs k 0)[k]? = some x := ⟨_, List.getElem?_eq_getElem (by omega)⟩
  obtain ⟨y, hy0⟩ : ∃ y, (put2 xs k 0)[k + 1]? = some y := ⟨_, List.getElem?_eq_getElem (by omega)⟩
  have hc1 := own_cell ho2 (j := k) (u := .int .u8 x.toNat) (by rw [B8_get, hx0]; rfl)
  have hc2 := own_cell ho2 (j := k + 1) (u := .int .u8 y.toNat) (by rw [B8_get, hy0]; rfl)
  have hf1 := own_fz ho2 k
  have hf2 := own_fz ho2 (k + 1)
  have hfl := fixC_lt xs k
  have hO := own_set (own_set ho2 k (.int .u8 ((fixC xs k : Int) / 256))) (k + 1) (.int .u8 ((fixC xs k : Int) % 256))
  rw [B8_set _ k (hi8 (fixC xs k)) (by rw [hi8_val hfl]; omega), B8_set _ (k + 1) (lo8 (fixC xs k)) (by rw [lo8_val]; omega), set_set _ _ _ _ (by omega)] at hO
  have hO2 := put2_put2 xs k 0 (fixC xs k) (by rw [HL.out]; exact hkn)
  rw [show (put2 xs k 0).take k ++ [hi8 (fixC xs k), lo8 (fixC xs k)] ++ (put2 xs k 0).drop (k + 2) = fixed xs k from hO2] at hO
  have HC : (65535 - fold (wsum (put2 xs k 0)) : Nat) = fixC xs k := rfl
  rw [HC]
  have hF3 : Fr [] w ((w2.setCell ⟨g, k, none⟩ (.int .u8 ((fixC xs k : Int) / 256))).setCell ⟨g, k + 1, none⟩ (.int .u8 ((fixC xs k : Int) % 256))) := (hF2.setCell (.inr hgb) _).setCell (.inr hgb) _
  have HO3 := Lib.hid hO
  have HB : Hid (w.heap.size ≤ g) := hgb
  clear hO hO2 HC ho2 hx0 hy0 hl2 HO hF2
  generalize fixC xs k = v at hfl HO3 hF3 ⊢
  have hw1 : IntKind.u8.wrap ((v : Int) / 256) = (v : Int) / 256 := u8_in (by omega) (by omega)
  have hw4 : IntKind.u8.wrap ((v : Int) % 256) = (v : Int) % 256 := u8_in (by omega) (by omega)
  have hv0 : (0 : Int) ≤ (v : Int) := by omega
  go_wp2
  go_ret2
  exact ⟨g, cc, rfl, HO3.out, hF3⟩
end Go.Proofs.Ytdkpmbefnfdbkaa
