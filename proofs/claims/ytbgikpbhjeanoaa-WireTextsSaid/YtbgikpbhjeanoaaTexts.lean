/- The walk of WireTexts. -/
import Derived.Test.YtbgikpbhjeanoaaRefU
import Derived.Test.YtbgikpbhjeanoaaMark
import Derived.Test.YtbgikpbhjeanoaaOne
namespace Go.Proofs.Ytbgikpbhjeanoaa
open Go.RowKit

def HexR (t : ByteArray) (f : Int) (w : World) (e : Ending) (w' : World) : Prop := e = .returned (.tuple #[.string t, .int .i64 f]) ∧ Fr [] w w'
/-- The program's and the reference's 'Hex' answer alike. -/
theorem hex_pair (n : Nat) (bs : List UInt8) (hl : bs.length = n) : ∃ (t : ByteArray) (f : Int),
    (∀ (A : Option Addr) (c : Nat) (w : World), Rd w A (B8 bs) → Calls Try.prog 36 #[.slice A n c] w (HexR t f w)) ∧
    (∀ (A : Option Addr) (c : Nat) (w : World), Rd w A (B8 bs) → Calls Try.prog 49 #[.slice A n c] w (HexR t f w)) := by
  by_cases hn : n ≤ 131072
  · exact ⟨⟨(hexOf bs).toArray⟩, 0, fun A c w h => hex_yes A n c bs w hl h hn, fun A c w h => rhex_yes A n c bs w hl h hn⟩
  · refine ⟨⟨#[]⟩, 3, fun A c w _ => (hex_long A n c w (by omega)).mono ?_, fun A c w _ => (rhex_long A n c w (by omega)).mono ?_⟩
    all_goals
      rintro e w' ⟨rfl, rfl⟩
      exact ⟨rfl, Fr.refl _ _⟩

def UnR (L : List UInt8) (f : Int) (w : World) (e : Ending) (w' : World) : Prop := ∃ u, e = .returned (.tuple #[u, .int .i64 f]) ∧ w'.ownsRow w.heap.size 5 1 u L.length (B8 L) ∧ Fr [] w w'
/-- .. and 'Unhex'. -/
theorem unhex_pair (s : ByteArray) : ∃ (L : List UInt8) (f : Int), L.length ≤ s.size ∧
    (∀ w, Calls Try.prog 37 #[.string s] w (UnR L f w)) ∧ (∀ w, Calls Try.prog 50 #[.string s] w (UnR L f w)) := by
  rcases read_cases s with hlong | ⟨hs1, hbad⟩ | ⟨hs1, m, hs2, hall⟩
  · refine ⟨[], 3, by simp, fun w => (unhex_long s w hlong).mono ?_, fun w => (runhex_long s w hlong).mono ?_⟩
    · rintro e w' ⟨rfl, hF⟩
      exact ⟨_, rfl, World.ownsRow_nil _ _ _ _, hF⟩
    · rintro e w' ⟨rfl, rfl⟩
      exact ⟨_, rfl, World.ownsRow_nil _ _ _ _, Fr.refl _ _⟩
  · refine ⟨[], 10, by simp, fun w => (unhex_bad s w hs1 hbad).mono ?_, fun w => (runhex_any s w hs1).mono ?_⟩
    · rintro e w' ⟨rfl, hF⟩
      exact ⟨_, rfl, World.ownsRow_nil _ _ _ _, hF⟩
    · rintro e w' ⟨h, hF⟩
      rcases h with ⟨h1, h2, -⟩ | ⟨-, rfl⟩
      · rcases hbad with hb | hb
        · omega
        · exact absurd h2 hb
      · exact ⟨_, rfl, World.ownsRow_nil _ _ _ _, hF⟩
  · have hlk : s.data.toList.length / 2 = m := by rw [size_list]; omega
    have hlk2 : s.size / 2 = m := by omega
    refine ⟨decK s.data.toList m, 0, by rw [decK_length]; omega, fun w => (unhex_yes s w hs1 (by omega) hall).mono ?_, fun w => (runhex_any s w hs1).mono ?_⟩
    · rintro e w' ⟨u, rfl, ho, hF⟩
      rw [hlk] at ho
      exact ⟨u, rfl, by rw [decK_length]; exact ho, hF⟩
    · rintro e w' ⟨h, hF⟩
      rcases h with ⟨-, -, u, rfl, ho⟩ | ⟨hb, -⟩
      · rw [hlk2] at ho
        exact ⟨u, rfl, by rw [decK_length]; exact ho, hF⟩
      · rcases hb with hb | hb
        · omega
        · exact absurd hall hb

set_option maxRecDepth 100000 in
set_option maxHeartbeats 4000000 in
theorem texts_any (A : Option Addr) (n c : Nat) (bs : List UInt8) (s : ByteArray) (w : World) (hl : bs.length = n) (hrd : Rd w A (B8 bs)) (hnil : A = none → c = 0) (hn : n ≤ 140737488351232) (hss : s.size ≤ 9223372036854775000) :
    Calls Try.prog 14 #[.slice A n c, .string s] w fun e w' => e = .returned (.bool true) ∧ Fr [] w w' := by
  obtain ⟨t, f, hH1, hH2⟩ := hex_pair n bs hl
  obtain ⟨L, h, hLs, hU1, hU2⟩ := unhex_pair s
  have HL := Lib.hid hl
  clear hl
  go_enter Try.func14, Try.ntmps14
  go_wp2_with fail
  refine (lent_any A n c bs w HL.out hrd hnil hn).mono ?_
  rintro e w1 ⟨g, c1, rfl, hg, hc1, hcm, hR1, hF1⟩
  have hr1 := hrd.fr hF1 (by simp)
  have hT : Rd w1 (some ⟨g, 0, none⟩) (B8 bs) := by
    have h := hR1.take n
    rwa [B8_take, show (bs ++ mks 12).take n = bs from by rw [← HL.out]; exact List.take_left] at h
  have hF := hF1
  clear hF1 hrd
  go_wp2_with fail
  refine (hH1 _ _ _ hT).mono ?_
  rintro e w2 ⟨rfl, hF2⟩
  replace hF := hF.trans hF2
  have hr2 := hr1.fr hF2 (by simp)
  replace hR1 := hR1.fr hF2 (by simp)
  clear hT hr1 hF2 hH1
  go_wp2_with fail
  refine (hH2 _ _ _ hr2).mono ?_
  rintro e w3 ⟨rfl, hF3⟩
  replace hF := hF.trans hF3
  replace hr2 := hr2.fr hF3 (by simp)
  replace hR1 := hR1.fr hF3 (by simp)
  clear hF3 hH2
  go_wp2_with fail
  refine (hU1 _).mono ?_
  rintro e w4 ⟨u4, rfl, ho4, hF4⟩
  obtain ⟨A4, c4, rfl, -⟩ := own_slice ho4
  have hr4 := Rd.own ho4
  replace hF := hF.trans hF4
  replace hr2 := hr2.fr hF4 (by simp)
  replace hR1 := hR1.fr hF4 (by simp)
  clear hF4 hU1 ho4
  go_wp2_with fail
  refine (hU2 _).mono ?_
  rintro e w5 ⟨u5, rfl, ho5, hF5⟩
  obtain ⟨A5, c5, rfl, -⟩ := own_slice ho5
  have hr5 := Rd.own ho5
  replace hF := hF.trans hF5
  replace hr2 := hr2.fr hF5 (by simp)
  replace hR1 := hR1.fr hF5 (by simp)
  replace hr4 := hr4.fr hF5 (by simp)
  clear hF5 hU2 ho5
  go_wp2_with fail
  refine (kept_any g A n c1 c bs w5 HL.out hR1 hr2 hn hc1).mono ?_
  rintro e w6 ⟨rfl, hS6⟩
  replace hF := hF.trans hS6.fr
  replace hr4 := hr4.fr hS6.fr (by simp)
  replace hr5 := hr5.fr hS6.fr (by simp)
  clear hS6 hR1 hr2
  go_wp2_with fail
  refine (show Calls _ _ _ _ (fun e w' => e = .returned (.bool true) ∧ SameW _ w') from by have h := same_any A4 A5 L.length L.length c4 c5 L L w6 rfl rfl hr4 hr5 (by omega); unfold EqP at h; simpa using h).mono ?_
  rintro e w7 ⟨rfl, hS7⟩
  replace hF := hF.trans hS7.fr
  clear hS7 hr4 hr5
  go_wp2_with fail
  go_ret
  exact ⟨rfl, hF⟩

set_option maxRecDepth 20000 in
/-- WireTexts returns true. -/
theorem wtexts_any (A : Option Addr) (n c : Nat) (bs : List UInt8) (s : ByteArray) (w : World) (hl : bs.length = n) (hrd : Rd w A (B8 bs)) (hnil : A = none → c = 0) (hn : n ≤ 140737488351232) (hss : s.size ≤ 9223372036854775000) :
    Calls Try.prog 5 #[.slice A n c, .string s] w fun e w' => e = .returned (.bool true) ∧ Fr [] w w' := by
  go_enter Try.func5, Try.ntmps5
  go_wp2_with fail
  refine (texts_any A n c bs s w hl hrd hnil hn hss).mono ?_
  rintro e w1 ⟨rfl, hF⟩
  go_wp2_with fail
  refine (awake_any w1).mono ?_
  rintro e w2 ⟨rfl, hF2⟩
  go_wp2_with fail
  go_ret
  exact ⟨rfl, hF.trans hF2⟩
end Go.Proofs.Ytbgikpbhjeanoaa
