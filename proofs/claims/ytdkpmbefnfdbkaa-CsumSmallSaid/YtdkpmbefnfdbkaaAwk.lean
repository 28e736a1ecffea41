/- The examples of the chapter: awake; ContainsFunc. -/
import Derived.Test.YtdkpmbefnfdbkaaFx
namespace Go.Proofs.Ytdkpmbefnfdbkaa
open Go.RowKit

theorem sum_is {A : Option Addr} {n c v : Nat} {xs : List UInt8} {w : World} (hl : xs.length = n) (hrd : Rd w A (B8 xs)) (hreach : n ≤ 140737488351232) (hv : fold (wsum xs) = v) :
    Calls Try.prog 18 #[.slice A n c] w fun e w' => e = .returned (.int .u16 v) ∧ Fr [] w w' := hv ▸ sum_any A n c xs w hl hrd hreach
theorem of_is {A : Option Addr} {n c v : Nat} {xs : List UInt8} {w : World} (hl : xs.length = n) (hrd : Rd w A (B8 xs)) (hreach : n ≤ 140737488351232) (hv : 65535 - fold (wsum xs) = v) :
    Calls Try.prog 24 #[.slice A n c] w fun e w' => e = .returned (.int .u16 v) ∧ Fr [] w w' := hv ▸ of_any A n c xs w hl hrd hreach
theorem upd_is {a b c v : Nat} {w : World} (h1 : a < 65536) (h2 : b < 65536) (h3 : c < 65536) (hv : upd a b c = v) :
    Calls Try.prog 23 #[.int .u16 a, .int .u16 b, .int .u16 c] w fun e w' => e = .returned (.int .u16 v) ∧ Fr [] w w' := hv ▸ update_any a b c w h1 h2 h3

set_option maxRecDepth 100000 in
set_option maxHeartbeats 1000000 in
theorem awake_any (w : World) : Calls Try.prog 10 #[] w fun e w' => e = .returned (.bool true) ∧ Fr [] w w' := by
  have hrd0 := rd_new w [69, 0, 0, 0, 0, 0] 5
  go_enter Try.func10, Try.ntmps10
  go_wp2_with fail
  refine (show Calls _ _ _ _ (FixYes _ [69, 0, 0, 0, 0, 0] 2 6) from fix_yes _ 6 6 [69, 0, 0, 0, 0, 0] 2 _ rfl hrd0 (by decide) rfl (by decide)).mono ?_
  rintro e w1 ⟨g, c, rfl, ho, hF⟩
  replace hF : Fr [] w w1 := ((Fr.refl _ w).alloc _).trans hF
  rw [show fixed [69, 0, 0, 0, 0, 0] 2 = [69, 0, 186, 255, 0, 0] from by decide] at ho
  have hR := Rd.own ho
  clear hrd0 ho
  go_wp2_with fail
  refine (show Calls _ _ _ _ (fun e w' => e = .returned (.tuple #[.int .u16 5148, .int .i64 0]) ∧ Fr [] w1 w') from pseudo_yes 167772161 167772162 17 8 w1 (by decide) (by decide) (by decide) (by decide)).mono ?_
  rintro e w2 ⟨rfl, hF2⟩
  replace hF := hF.trans hF2
  replace hR := hR.fr hF2 (by simp)
  clear hF2
  go_wp2_with fail
  refine (show Calls _ _ _ _ (fun e w' => e = .returned (.int .u16 1030) ∧ Fr [] _ w') from sum_is (n := 4) (c := 4) (v := 1030) (xs := [1, 2, 3, 4]) rfl (rd_new w2 _ 5) (by decide) (by decide)).mono ?_
  rintro e w3 ⟨rfl, hF3⟩
  replace hF3 : Fr [] w2 w3 := ((Fr.refl _ w2).alloc _).trans hF3
  replace hF := hF.trans hF3
  replace hR := hR.fr hF3 (by simp)
  clear hF3
  go_wp2_with fail
  refine (show Calls _ _ _ _ (fun e w' => e = .returned (.int .u16 64505) ∧ Fr [] _ w') from of_is (n := 4) (c := 4) (v := 64505) (xs := [1, 2, 3, 4]) rfl (rd_new w3 _ 5) (by decide) (by decide)).mono ?_
  rintro e w4 ⟨rfl, hF4⟩
  replace hF4 : Fr [] w3 w4 := ((Fr.refl _ w3).alloc _).trans hF4
  replace hF := hF.trans hF4
  replace hR := hR.fr hF4 (by simp)
  clear hF4
  go_wp2_with fail
  refine (show Calls _ _ _ _ (fun e w' => e = .returned (.int .u16 1026) ∧ Fr [] _ w') from sum_is (n := 3) (c := 3) (v := 1026) (xs := [1, 2, 3]) rfl (rd_new w4 _ 5) (by decide) (by decide)).mono ?_
  rintro e w5 ⟨rfl, hF5⟩
  replace hF5 : Fr [] w4 w5 := ((Fr.refl _ w4).alloc _).trans hF5
  replace hF := hF.trans hF5
  replace hR := hR.fr hF5 (by simp)
  clear hF5
  go_wp2_with fail
  refine (show Calls _ _ _ _ (fun e w' => e = .returned (.int .u16 1) ∧ Fr [] _ w') from sum_is (n := 4) (c := 4) (v := 1) (xs := [255, 255, 0, 1]) rfl (rd_new w5 _ 5) (by decide) (by decide)).mono ?_
  rintro e w6 ⟨rfl, hF6⟩
  replace hF6 : Fr [] w5 w6 := ((Fr.refl _ w5).alloc _).trans hF6
  replace hF := hF.trans hF6
  replace hR := hR.fr hF6 (by simp)
  clear hF6
  go_wp2_with fail
  refine (show Calls _ _ _ _ (fun e w' => e = .returned (.int .u16 0) ∧ Fr [] _ w') from sum_is (A := none) (n := 0) (c := 0) (v := 0) (xs := []) rfl (Rd.nil _ _) (by decide) (by decide)).mono ?_
  rintro e w7 ⟨rfl, hF7⟩
  replace hF := hF.trans hF7
  replace hR := hR.fr hF7 (by simp)
  clear hF7
  go_wp2_with fail
  refine (show Calls _ _ _ _ (fun e w' => e = .returned (.int .u16 65535) ∧ Fr [] _ w') from of_is (n := 3) (c := 3) (v := 65535) (xs := [0, 0, 0]) rfl (rd_new w7 _ 5) (by decide) (by decide)).mono ?_
  rintro e w8 ⟨rfl, hF8⟩
  replace hF8 : Fr [] w7 w8 := ((Fr.refl _ w7).alloc _).trans hF8
  replace hF := hF.trans hF8
  replace hR := hR.fr hF8 (by simp)
  clear hF8
  have hFa : Fr [] w8 (w8.alloc (.cells (B8 [69, 0, 186, 255, 0, 0]).toArray 5)) := (Fr.refl _ w8).alloc _
  have hrd2 := rd_new w8 [69, 0, 186, 255, 0, 0] 5
  go_wp2_with fail
  refine (show Calls _ _ _ _ (fun e w' => e = .returned (.bool true) ∧ SameW _ w') from same_any (some ⟨g, 0, none⟩) (some ⟨w8.heap.size, 0, none⟩) 6 6 c 6 [69, 0, 186, 255, 0, 0] [69, 0, 186, 255, 0, 0] _ rfl rfl (hR.fr hFa (by simp)) hrd2 (by decide)).mono ?_
  rintro e w9 ⟨rfl, hS9⟩
  replace hF := (hF.trans hFa).trans hS9.fr
  clear hFa hrd2 hS9 hR
  go_wp2_with fail
  refine (show Calls _ _ _ _ (fun e w' => e = .returned (.int .u16 64504) ∧ Fr [] _ w') from upd_is (a := 64505) (b := 258) (c := 259) (v := 64504) (w := w9) (by decide) (by decide) (by decide) (by decide)).mono ?_
  rintro e w10 ⟨rfl, hF10⟩
  replace hF := hF.trans hF10
  clear hF10
  go_wp2_with fail
  refine (show Calls _ _ _ _ (fun e w' => e = .returned (.int .u16 0) ∧ Fr [] _ w') from upd_is (a := 65277) (b := 258) (c := 0) (v := 0) (w := w10) (by decide) (by decide) (by decide) (by decide)).mono ?_
  rintro e w11 ⟨rfl, hF11⟩
  replace hF := hF.trans hF11
  clear hF11
  go_wp2_with fail
  refine (show Calls _ _ _ _ (fun e w' => e = .returned (.int .u16 65277) ∧ Fr [] _ w') from of_is (n := 2) (c := 2) (v := 65277) (xs := [1, 2]) rfl (rd_new w11 _ 5) (by decide) (by decide)).mono ?_
  rintro e w12 ⟨rfl, hF12⟩
  replace hF12 : Fr [] w11 w12 := ((Fr.refl _ w11).alloc _).trans hF12
  replace hF := hF.trans hF12
  clear hF12
  go_wp2_with fail
  go_ret
  exact ⟨rfl, hF⟩

/-- f tells whether a byte is not 0. -/
def Tells0 (f : Nat) : Prop := ∀ (x : UInt8) (w : World), Calls Try.prog f #[.int .u8 x.toNat] w fun e w' => e = .returned (.bool (x != 0)) ∧ w = w'
theorem ne_zero8 (x : UInt8) : (((x.toNat : Int)) != 0) = (x != 0) := by
  by_cases h : x = 0
  · subst h; rfl
  · have h1 : x.toNat ≠ 0 := fun e => h (UInt8.toNat.inj e)
    have e1 : (x != 0) = true := by simpa using h
    rw [e1, bne_iff_ne]
    omega
set_option maxRecDepth 20000 in
theorem tells_fixed : Tells0 17 := fun x w => by
  have h := ne_zero8 x
  have H := Lib.hid h
  clear h
  go_enter Try.func17, Try.ntmps17
  go_wp2
  go_ret
  exact ⟨by rw [← H.out]; rfl, rfl⟩

/-- At which index the first byte other than 0 stands; -1. -/
def IdxP (xs : List UInt8) (w : World) (e : Ending) (w' : World) : Prop := w = w' ∧ ((wsum xs = 0 ∧ e = .returned (.int .i64 (-1))) ∨ (wsum xs ≠ 0 ∧ ∃ k : Nat, e = .returned (.int .i64 k)))
set_option maxRecDepth 20000 in
set_option maxHeartbeats 1000000 in
theorem index_any {f : Nat} (hf : Tells0 f) (ef : ∀ args w, (callFunc f args).run Try.prog w = .ok (.enter f args) w) (A : Option Addr) (n c : Nat) (xs : List UInt8) (w : World) (hl : xs.length = n) (hrd : Rd w A (B8 xs)) (hreach : n ≤ 140737488351232) :
    Calls Try.prog 42 #[.slice A n c, .func (.func f) #[] #[]] w (IdxP xs w) := by
  have Hl := Lib.hid hl
  clear hl
  go_enter Try.func42, Try.ntmps42
  go_wp2
  go_loop [8] (fun i => ∃ k : Nat, k ≤ n ∧ i = .int .i64 k ∧ ∀ x ∈ xs.take k, x = 0) (fun i => n - (intOf i).toNat)
  case atStart => exact ⟨0, Nat.zero_le _, rfl, by simp⟩
  case round =>
    obtain ⟨k, hk, rfl, hz⟩ := hrel
    by_cases hlt : k < n
    · have hkx : k < xs.length := by have := Hl.out; omega
      obtain ⟨b, o, rfl⟩ := rd_addr8 hrd (by omega)
      obtain ⟨x, hx0⟩ : ∃ x, xs[k]? = some x := ⟨_, List.getElem?_eq_getElem hkx⟩
      have hcell := rdj hrd k x hx0
      have hi0 : (0 : Int) ≤ (k : Int) ∧ (k : Int) < (n : Int) := by omega
      have HX := Lib.hid hx0
      have HZ := Lib.hid hz
      by_cases hx : x = 0
      · have HS : Hid (∀ y ∈ xs.take (k + 1), y = 0) := by
          show ∀ _, _
          intro y hy
          rw [List.take_add_one, hx0, List.mem_append] at hy
          rcases hy with hy | hy
          · exact hz y hy
          · simp at hy; rw [hy]; exact hx
        have hT := hf x w
        rw [show (x != 0) = false by simpa using hx] at hT
        clear hx0 hz hx hrd
        go_wp2_with fail
        refine hT.mono ?_
        rintro e w' ⟨rfl, rfl⟩
        clear hT
        go_wp2_with fail
        go_round
        case rel => exact ⟨k + 1, by omega, by go_num, HS.out⟩
        case measure => simp [intOf]; omega
      · have hT := hf x w
        rw [show (x != 0) = true by simpa using hx] at hT
        have HN : Hid (wsum xs ≠ 0) := by
          show ¬ _
          intro h
          exact hx ((wsum_zero xs).1 h x (List.mem_of_getElem? hx0))
        clear hx0 hz hx hrd
        go_wp2_with fail
        refine hT.mono ?_
        rintro e w' ⟨rfl, rfl⟩
        clear hT
        go_wp2_with fail
        go_ret
        exact ⟨rfl, .inr ⟨HN.out, k, rfl⟩⟩
    · obtain rfl : k = n := by omega
      have HZ : Hid (wsum xs = 0) := by
        show _ = _
        rw [wsum_zero]
        rwa [List.take_of_length_le (by rw [Hl.out]; exact Nat.le_refl _)] at hz
      clear hz
      go_wp2
      go_ret
      exact ⟨rfl, .inl ⟨HZ.out, rfl⟩⟩

set_option maxRecDepth 20000 in
theorem contains_any {f : Nat} (hf : Tells0 f) (ef : ∀ args w, (callFunc f args).run Try.prog w = .ok (.enter f args) w) (A : Option Addr) (n c : Nat) (xs : List UInt8) (w : World) (hl : xs.length = n) (hrd : Rd w A (B8 xs)) (hreach : n ≤ 140737488351232) :
    Calls Try.prog 16 #[.slice A n c, .func (.func f) #[] #[]] w fun e w' => e = .returned (.bool (decide (wsum xs ≠ 0))) ∧ w = w' := by
  have hI := index_any hf ef A n c xs w hl hrd hreach
  go_enter Try.func16, Try.ntmps16
  go_wp2_with fail
  refine hI.mono ?_
  clear hI
  rintro e w' ⟨rfl, ⟨h, rfl⟩ | ⟨h, k, rfl⟩⟩
  · have H := Lib.hid h
    clear h
    go_wp2_with fail
    go_ret
    exact ⟨by rw [H.out]; rfl, rfl⟩
  · have H := Lib.hid h
    clear h
    go_wp2_with fail
    go_ret
    exact ⟨by rw [decide_eq_true H.out]; rfl, rfl⟩
end Go.Proofs.Ytdkpmbefnfdbkaa
