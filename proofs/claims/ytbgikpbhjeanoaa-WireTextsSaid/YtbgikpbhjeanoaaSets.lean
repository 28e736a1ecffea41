/- The walk of WireSets. -/
import Derived.Test.YtbgikpbhjeanoaaAw
namespace Go.Proofs.Ytbgikpbhjeanoaa
open Go.RowKit

theorem be2_num {v : Int} (h0 : 0 ≤ v) (h1 : v < 65536) : ((256 * (n8 (v / 256)).toNat + (n8 (v % 256)).toNat : Nat) : Int) = v := by
  simp only [n8, UInt8.toNat_ofNat']
  omega

set_option maxRecDepth 100000 in
set_option maxHeartbeats 2000000 in
theorem sets_out (A : Option Addr) (n c m : Nat) (ys : List UInt8) (at_ v : Int) (w : World) (hm : (n ≤ 2000 ∧ m = n) ∨ (¬ n ≤ 2000 ∧ m = 2000)) (hl : ys.length = m) (hrd : Rd w A (B8 ys)) (hnil : A = none → c = 0) (hnc : n ≤ c)
    (hv0 : 0 ≤ v) (hv1 : v < 65536) (ha0 : -9223372036854775808 ≤ at_) (ha1 : at_ ≤ 9223372036854775807) (hat : at_ < 0 ∨ (m : Int) - 2 < at_) :
    Calls Try.prog 9 #[.slice A n c, .int .i64 at_, .int .u16 v] w fun e w' => e = .returned (.bool true) ∧ Fr [] w w' := by
  have HNIL := Lib.hid hnil
  have HL := Lib.hid hl
  clear hnil hl
  rcases hm with ⟨hn, rfl⟩ | ⟨hn, rfl⟩
  all_goals
    go_enter Try.func9, Try.ntmps9
    go_wp2_with fail
    refine (awake_any w).mono ?_
    rintro e w1 ⟨rfl, hF⟩
    have hr1 := hrd.fr hF (by simp)
    go_wp2_with fail
    refine (newW_yes 2000 _ (by decide)).mono ?_
    rintro e w2 ⟨g, rfl, hW, hF2⟩
    have hr2 := hr1.fr hF2 (by simp)
    have hs1 := hF.size
    have hs2 := hF2.size
    replace hF := hF.trans hF2
    have hs2' := hF.size
    replace hW := hW.low (show w.heap.size ≤ _ by omega)
    clear hr1 hF2
    go_wp2_with fail
    refine (wBytes_yes hW HL.out hr2 HNIL.out hs2' (by simp only [List.length_nil, Nat.zero_add]; omega)).mono ?_
    rintro e w3 ⟨v3, rfl, hW3, hF3, -⟩
    replace hF := hW.far (Nat.le_refl _) hF hF3
    clear hW hF3 hr2
    go_wp2_with fail
    refine (wSet_no hW3 (at_ := at_) (z := v) (.inr (by simp only [List.nil_append, HL.out]; omega))).mono ?_
    rintro e w4 ⟨rfl, hW4, hF4⟩
    replace hF := hF.one hF4 hW3.lo
    clear hW3 hF4
    go_wp2_with fail
    refine (wDone_no hW4).mono ?_
    rintro e w5 ⟨rfl, rfl⟩
    rcases hat with hat | hat
  all_goals go_wp2_with fail
  all_goals
    have hwl := wLen hW4
    rw [List.nil_append, HL.out] at hwl
    refine hwl.mono ?_
    clear hwl
    rintro e w6 ⟨rfl, rfl⟩
    go_wp2_with fail
    go_ret
    exact ⟨rfl, hF⟩

theorem ret_true {b : Bool} (h : b = true) : Ending.returned (.bool b) = .returned (.bool true) := by rw [h]
theorem rd_ite {w : World} {A B : Option Addr} {xs : List Value} {p : Prop} [Decidable p] (h1 : p → Rd w A xs) (h2 : ¬ p → Rd w B xs) : Rd w (if p then A else B) xs := by
  by_cases h : p
  · rw [if_pos h]; exact h1 h
  · rw [if_neg h]; exact h2 h

theorem eq_quiet {A B : Option Addr} {n m c d : Nat} {xs ys : List UInt8} {w : World} (hxy : xs = ys) (hx : xs.length = n) (hy : ys.length = m) (ha : Rd w A (B8 xs)) (hb : Rd w B (B8 ys)) (hn : n ≤ 9223372036854775000) (q : Nat) :
    Calls Try.prog 29 #[.slice A n c, .slice B m d] (w.drewN q) fun e w'' => e = .returned (.bool true) ∧ ∃ j, w'' = w.drewN j := by
  refine (equal_any A B n m c d xs ys (w.drewN q) hx hy (ha.alk rfl) (hb.alk rfl) hn).mono ?_
  rintro e w' ⟨h1, j, h2⟩
  rw [decide_eq_true hxy] at h1
  exact ⟨h1, _, h2.trans (World.drewN_drewN _ _ _)⟩

theorem splice_take (xs : List UInt8) (k : Nat) (l : List UInt8) (hk : k + l.length ≤ xs.length) : (splice xs k l).take k = xs.take k := by
  unfold splice
  rw [List.take_append_of_le_length (by simp; omega), List.take_take, Nat.min_self]
theorem splice_drop (xs : List UInt8) (k : Nat) (l : List UInt8) (hk : k + l.length ≤ xs.length) : (splice xs k l).drop (k + l.length) = xs.drop (k + l.length) := by
  unfold splice
  rw [← List.append_assoc]
  have h : k + l.length = (xs.take k ++ l).length := by simp; omega
  rw [h, List.drop_left]
theorem splice_mid (xs : List UInt8) (k : Nat) (l : List UInt8) (hk : k + l.length ≤ xs.length) : ((splice xs k l).drop k).take l.length = l := by
  unfold splice
  have h : (xs.take k).length = k := by simp; omega
  rw [List.drop_append_of_le_length (by omega), List.drop_of_length_le (by omega), List.nil_append, List.take_left]

set_option maxRecDepth 100000 in
set_option maxHeartbeats 2000000 in
theorem sets_in (A : Option Addr) (n c m k : Nat) (ys : List UInt8) (v : Int) (w : World) (hm : (n ≤ 2000 ∧ m = n) ∨ (¬ n ≤ 2000 ∧ m = 2000)) (hl : ys.length = m) (hrd : Rd w A (B8 ys)) (hnil : A = none → c = 0) (hnc : n ≤ c)
    (hv0 : 0 ≤ v) (hv1 : v < 65536) (hk : k + 2 ≤ m) (ha1 : (k : Int) ≤ 9223372036854775807) :
    Calls Try.prog 9 #[.slice A n c, .int .i64 k, .int .u16 v] w fun e w' => e = .returned (.bool true) ∧ Fr [] w w' := by
  have HNIL := Lib.hid hnil
  have HL := Lib.hid hl
  have hk0 : decide ((k : Int) < 0) = false := by simp
  clear hnil hl
  have hk5 : (k : Int) + 2 ≤ (m : Int) := by omega
  have hm2 : m ≤ 2000 ∧ m ≤ n := by omega
  have HM : Hid (n ≤ 2000 ∨ m = 2000) := by rcases hm with h | h; exact .inl h.1; exact .inr h.2
  rcases hm with ⟨hn, hmn⟩ | ⟨hn, hmn⟩
  case' inl =>
    obtain rfl : n = m := hmn.symm
    clear hmn HM
    go_enter Try.func9, Try.ntmps9
    go_wp2_with fail
    refine (awake_any w).mono ?_
    rintro e w1 ⟨rfl, hF⟩
    have hr1 := hrd.fr hF (by simp)
    go_wp2_with fail
  case' inr =>
    have HMN := Lib.hid hmn
    clear hmn HM
    go_enter Try.func9, Try.ntmps9
    go_wp2_with fail
    refine (awake_any w).mono ?_
    rintro e w1 ⟨rfl, hF⟩
    have hr1 := hrd.fr hF (by simp)
    go_wp2_with fail
    rw [← HMN.out]
  all_goals
    refine (newW_yes 2000 _ (by decide)).mono ?_
    rintro e w2 ⟨g, rfl, hW, hF2⟩
    have hr2 := hr1.fr hF2 (by simp)
    have hs1 := hF.size
    have hs2 := hF2.size
    replace hF := hF.trans hF2
    have hs2' := hF.size
    replace hW := hW.low (show w.heap.size ≤ _ by omega)
    clear hr1 hF2
    go_wp2_with fail
    refine (wBytes_yes hW HL.out hr2 HNIL.out hs2' (by simp only [List.length_nil, Nat.zero_add]; omega)).mono ?_
    rintro e w3 ⟨v3, rfl, hW3, hF3, -⟩
    replace hF := hW.far (Nat.le_refl _) hF hF3
    rw [List.nil_append] at hW3
    clear hW hF3 hr2
    go_wp2_with fail
    refine (wSet_yes hW3 (k := k) (z := v) hv0 hv1 (by rw [HL.out]; exact hk)).mono ?_
    rintro e w4 ⟨rfl, hW4, hF4⟩
    replace hF := hW3.far2 (Nat.le_refl _) hF hF4
    clear hW3 hF4
    go_wp2_with fail
    refine (wDone_yes hW4).mono ?_
    rintro e w5 ⟨u, rfl, hu, hF5⟩
    replace hF := hF.trans hF5
    have hsl : (splice ys k (be2 v)).length = ys.length := length_splice _ _ _ (by show k + 2 ≤ _; rw [HL.out]; exact hk)
    rw [hsl, HL.out] at hu
    obtain ⟨A5, c5, rfl, hc5, -, -⟩ := own_slice hu
    have hr5 := Rd.own hu
    clear hu hW4
    have hry := hrd.fr hF (by simp)
    have hd2 : decide ((ys.length : Int) - 2 < k) = false := by simp; rw [HL.out]; omega
    rw [HL.out] at hd2
    go_wp2_with fail
    refine (newR_yes A5 _ c5 _ _ (hsl.trans HL.out) hr5 (by omega)).mono ?_
    rintro e w6 ⟨g6, v6, rfl, hR6, hF6⟩
    have hs5 := hF.size
    replace hR6 := hR6.low (show w.heap.size ≤ _ by omega)
    replace hF := hF.trans hF6
    have hr6 := hr5.fr hF6 (by simp)
    have hry6 := hry.fr hF6 (by simp)
    clear hr5 hry hF6
    have ht5 := hr6.take k
    have ht := hry6.take k
    have hA1 : c5 = k + 2 → Rd w6 A5 (B8 ((splice ys k (be2 v)).drop (k + 2))) := fun e => by rw [List.drop_of_length_le (by rw [hsl, HL.out]; omega)]; exact Rd.nil _ _
    have hB1 : c = k + 2 → Rd w6 A (B8 (ys.drop (k + 2))) := fun e => by rw [List.drop_of_length_le (by rw [HL.out]; omega)]; exact Rd.nil _ _
    have hA2 := hr6.drop (k + 2)
    have hB2 := hry6.drop (k + 2)
    rw [B8_drop] at hA2 hB2
    rw [B8_take] at ht ht5
    simp only [Addr.add_succ'] at hA2 hB2
    have HT := Lib.hid (splice_take ys k (be2 v) (by rw [HL.out]; exact hk))
    have HD : Hid ((splice ys k (be2 v)).drop (k + 2) = ys.drop (k + 2)) := splice_drop ys k (be2 v) (by rw [HL.out]; exact hk)
    have HSL := Lib.hid hsl
    have hwr : IntKind.i64.wrap ((k : Int) + 2) = (k : Int) + 2 := IntWalk.i64_in _ (by omega)
    have htn : ((k : Int) + 2).toNat = k + 2 := by omega
    have hb1 : (k : Int) ≤ (c5 : Int) := by omega
    have hb2 : (k : Int) ≤ (c : Int) := by omega
    have hb3 : (k : Int) + 2 ≤ (c5 : Int) := by omega
    have hb4 : (k : Int) + 2 ≤ (c : Int) := by omega
    have hw00 : IntKind.i64.wrap 0 = 0 := by decide
    have hb6 : (0 : Int) ≤ (k : Int) + 2 := by omega
    clear hr6 hry6 hsl
    go_wp2_with fail
    go_quiet ((first
      | (go_at_call_of 29 (Value.slice A5 k c5); exact eq_quiet HT.out (by rw [List.length_take, HSL.out, HL.out]; omega) (by rw [List.length_take, HL.out]; omega) ht5 ht (by omega) _)
      | (go_at_call 29; refine eq_quiet HD.out ?_ ?_ ?_ ?_ ?_ _; all_goals (first | exact rd_ite hA1 (fun _ => hA2) | exact rd_ite hB1 (fun _ => hB2) | (simp only [List.length_drop, HSL.out, HL.out]; done) | (simp only [List.length_drop, HL.out]; done) | omega))))
    generalize (if c5 = k + 2 then A5 else Option.map (fun x => { block := x.block, off := x.off + (k + 1 + 1) }) A5) = E5
    generalize (if c = k + 2 then A else Option.map (fun x => { block := x.block, off := x.off + (k + 1 + 1) }) A) = E
    replace hR6 : RdAt (w6.drewN nq) w.heap.size g6 v6 (splice ys k (be2 v)) 0 false := hR6.alk rfl
    replace hF : Fr [] w (w6.drewN nq) := hF.alk rfl rfl rfl rfl
    have hmid : ((splice ys k (be2 v)).drop (0 + k)).take 2 = [n8 (v / 256), n8 (v % 256)] := by rw [Nat.zero_add]; exact splice_mid ys k (be2 v) (by rw [HL.out]; exact hk)
    clear hA1 hA2 hB1 hB2 ht ht5
    go_wp2_with fail
    refine (rSkip_yes hR6 (m := k) (by rw [HSL.out, HL.out]; omega)).mono ?_
    rintro e w7 ⟨rfl, hR7, hF7⟩
    replace hF := hR6.far (Nat.le_refl _) hF hF7
    clear hR6 hF7
    have hU := rU16_yes hR7 hmid
    rw [be2_num hv0 hv1] at hU
    go_wp2_with fail
    refine hU.mono ?_
    clear hU hmid
    rintro e w8 ⟨rfl, hR8, hF8⟩
    replace hF := hR7.far (Nat.le_refl _) hF hF8
    clear hR7 hF8
    have hLf := rLeft hR8
    rw [HSL.out, HL.out] at hLf
    go_wp2_with fail
    refine hLf.mono ?_
    clear hLf
    rintro e w9 ⟨rfl, hR9, hF9⟩
    replace hF := hF.trans hF9
    clear hR8 hR9 hF9
    go_wp2_with fail
  all_goals
    go_ret
    exact ⟨ret_true (by rw [beq_iff_eq]; omega), hF⟩

/-- WireSets returns true. -/
theorem sets_any (A : Option Addr) (n c : Nat) (xs : List UInt8) (at_ v : Int) (w : World) (hl : xs.length = n) (hrd : Rd w A (B8 xs)) (hnil : A = none → c = 0) (hnc : n ≤ c)
    (hv0 : 0 ≤ v) (hv1 : v < 65536) (ha0 : -9223372036854775808 ≤ at_) (ha1 : at_ ≤ 9223372036854775807) :
    Calls Try.prog 9 #[.slice A n c, .int .i64 at_, .int .u16 v] w fun e w' => e = .returned (.bool true) ∧ Fr [] w w' := by
  obtain ⟨m, ys, hm, hly, hry⟩ : ∃ m ys, ((n ≤ 2000 ∧ m = n) ∨ (¬ n ≤ 2000 ∧ m = 2000)) ∧ List.length ys = m ∧ Rd w A (B8 ys) := by
    by_cases hn : n ≤ 2000
    · exact ⟨n, xs, .inl ⟨hn, rfl⟩, hl, hrd⟩
    · exact ⟨2000, xs.take 2000, .inr ⟨hn, rfl⟩, by rw [List.length_take]; omega, by rw [← B8_take]; exact hrd.take _⟩
  by_cases hat : at_ < 0 ∨ (m : Int) - 2 < at_
  · exact sets_out A n c m ys at_ v w hm hly hry hnil hnc hv0 hv1 ha0 ha1 hat
  · obtain ⟨k, rfl⟩ := Int.eq_ofNat_of_zero_le (show 0 ≤ at_ by omega)
    exact sets_in A n c m k ys v w hm hly hry hnil hnc hv0 hv1 (by omega) ha1
end Go.Proofs.Ytbgikpbhjeanoaa
