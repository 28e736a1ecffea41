/- The walks of WireOne and WireWrong. -/
import Derived.Test.YtbgikpbhjeanoaaTxt
import Derived.Test.YtbgikpbhjeanoaaSets
namespace Go.Proofs.Ytbgikpbhjeanoaa
open Go.RowKit

/-- 'Unhex' of the text of bytes. -/
theorem unhex_hex (ys : List UInt8) (t : ByteArray) (w : World) (ht : t.data.toList = hexOf ys) (hl : ys.length ≤ 131072) :
    Calls Try.prog 37 #[.string t] w (DoneYes w ys) := by
  have hs : t.size = 2 * ys.length := by rw [← size_list, ht, hexOf_length]
  refine (unhex_yes t w (by omega) (by omega) (by rw [ht]; exact allDig_hexOf ys)).mono ?_
  rintro e w' ⟨u, he, ho, hF⟩
  have e1 : (hexOf ys).length / 2 = ys.length := by rw [hexOf_length]; omega
  rw [ht, e1, decK_hexOf] at ho
  exact ⟨u, he, ho, hF⟩

/-- What becomes of any string. -/
inductive Read (s : ByteArray) : Prop
  | long (h : 262144 < s.size)
  | bad (h1 : s.size ≤ 262144) (h2 : s.size % 2 = 1 ∨ ¬ AllDig s.data.toList)
  | ok (h1 : s.size ≤ 262144) (m : Nat) (h2 : s.size = 2 * m) (h3 : AllDig s.data.toList)
theorem read_cases (s : ByteArray) : Read s := by
  by_cases h1 : 262144 < s.size
  · exact .long h1
  · by_cases h2 : s.size % 2 = 1 ∨ ¬ AllDig s.data.toList
    · exact .bad (by omega) h2
    · have h3 : AllDig s.data.toList := Classical.byContradiction fun h => h2 (.inr h)
      have h4 : ¬ (s.size % 2 = 1) := fun h => h2 (.inl h)
      exact .ok (by omega) (s.size / 2) (by omega) h3

set_option maxRecDepth 100000 in
set_option maxHeartbeats 4000000 in
theorem one_any (A : Option Addr) (n c m : Nat) (ys : List UInt8) (s : ByteArray) (w : World) (hm : (n ≤ 2000 ∧ m = n) ∨ (¬ n ≤ 2000 ∧ m = 2000)) (hl : ys.length = m) (hrd : Rd w A (B8 ys)) (hnc : n ≤ c) (hss : s.size ≤ 9223372036854775807) :
    Calls Try.prog 8 #[.slice A n c, .string s] w fun e w' => e = .returned (.bool true) ∧ Fr [] w w' := by
  have HL := Lib.hid hl
  have hm2 : m ≤ 2000 ∧ m ≤ n := by omega
  generalize ht : (⟨(hexOf ys).toArray⟩ : ByteArray) = t
  have htl : t.data.toList = hexOf ys := by rw [← ht]
  have hts : (t.size : Int) = 2 * (m : Int) := by rw [← size_list, htl, hexOf_length, hl]; omega
  have HT := Lib.hid ht
  have HTL := Lib.hid htl
  have hw00 : IntKind.i64.wrap 0 = 0 := by decide
  clear hl ht htl
  rcases hm with ⟨hn, hmn⟩ | ⟨hn, hmn⟩
  case' inl =>
    obtain rfl : n = m := hmn.symm
    clear hmn
    go_enter Try.func8, Try.ntmps8
    go_wp2_with fail
    refine (awake_any w).mono ?_
    rintro e w1 ⟨rfl, hF⟩
    have hr1 := hrd.fr hF (by simp)
    go_wp2_with fail
  case' inr =>
    have HMN := Lib.hid hmn
    clear hmn
    go_enter Try.func8, Try.ntmps8
    go_wp2_with fail
    refine (awake_any w).mono ?_
    rintro e w1 ⟨rfl, hF⟩
    have hr1 := hrd.fr hF (by simp)
    go_wp2_with fail
    rw [← HMN.out]
  all_goals
    have hH := hex_yes A _ c ys w1 HL.out hr1 (by omega)
    unfold HexYes at hH
    rw [HT.out] at hH
    refine hH.mono ?_
    clear hH
    rintro e w2 ⟨rfl, hF2⟩
    have hr2 := hr1.fr hF2 (by simp)
    replace hF := hF.trans hF2
    clear hr1 hF2
    go_wp2_with fail
    refine (unhex_hex ys t _ HTL.out (by rw [HL.out]; omega)).mono ?_
    rintro e w3 ⟨u, rfl, hu, hF3⟩
    rw [HL.out] at hu
    obtain ⟨A3, c3, rfl, hc3, -, -⟩ := own_slice hu
    have hr3 := Rd.own hu
    have hry := hr2.fr hF3 (by simp)
    replace hF := hF.trans hF3
    clear hu hr2 hF3
    go_wp2_with fail
    refine (show Calls _ _ _ _ (fun e w' => e = .returned (.bool true) ∧ SameW _ w') from by have h := equal_any A3 A _ _ c3 c ys ys w3 HL.out HL.out hr3 hry (by omega); unfold EqP at h; simpa using h).mono ?_
    rintro e w4 ⟨rfl, hS⟩
    replace hF := hF.trans hS.fr
    clear hr3 hry hS
    go_wp2_with fail
  all_goals
    rcases read_cases s with hlong | ⟨hs1, hbad⟩ | ⟨hs1, k, hs2, hall⟩
    · have hlong' : (262144 : Int) < (s.size : Int) := by omega
      refine (unhex_long s _ hlong).mono ?_
      rintro e w5 ⟨rfl, hF5⟩
      replace hF := hF.trans hF5
      go_wp2_with fail
      go_ret
      exact ⟨rfl, hF⟩
    · refine (unhex_bad s _ hs1 hbad).mono ?_
      rintro e w5 ⟨rfl, hF5⟩
      replace hF := hF.trans hF5
      go_wp2_with fail
      go_ret
      exact ⟨rfl, hF⟩
    · have HS2 := Lib.hid hs2
      have hlk : s.data.toList.length / 2 = k := by rw [size_list]; omega
      have hback : (⟨(hexOf (decK s.data.toList k)).toArray⟩ : ByteArray) = s := by rw [hexOf_decK k _ hall (by rw [size_list]; exact hs2)]
      have HB := Lib.hid hback
      clear hback
      refine (unhex_yes s _ hs1 (by omega) hall).mono ?_
      rintro e w5 ⟨u5, rfl, hu5, hF5⟩
      rw [hlk] at hu5
      obtain ⟨A5, c5, rfl, hc5, -, -⟩ := own_slice hu5
      have hr5 := Rd.own hu5
      replace hF := hF.trans hF5
      have hk : k ≤ 131072 := by omega
      clear hu5 hF5 hs2 hlk
      go_wp2_with fail
      have hH := hex_yes A5 k c5 _ w5 (decK_length _ _) hr5 hk
      unfold HexYes at hH
      rw [HB.out] at hH
      refine hH.mono ?_
      clear hH hr5
      rintro e w6 ⟨rfl, hF6⟩
      replace hF := hF.trans hF6
      go_wp2_with fail
      go_ret
      exact ⟨rfl, hF⟩
end Go.Proofs.Ytbgikpbhjeanoaa
