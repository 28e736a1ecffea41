/- The examples of the chapter: awake; ContainsFunc. -/
import Derived.Test.YtdkpmbefnfdbkabFx
namespace Go.Proofs.Ytdkpmbefnfdbkab
open Go.RowKit

theorem sum_is {A : Option Addr} {n c v : Nat} {xs : List UInt8} {w : World} (hl : xs.length = n) (hrd : Rd w A (B8 xs)) (hreach : n ≤ 140737488351232) (hv : fold (wsum xs) = v) :
    Calls Try.prog 10 #[.slice A n c] w fun e w' => e = .returned (.int .u16 v) ∧ Fr [] w w' := hv ▸ sum_any A n c xs w hl hrd hreach
theorem of_is {A : Option Addr} {n c v : Nat} {xs : List UInt8} {w : World} (hl : xs.length = n) (hrd : Rd w A (B8 xs)) (hreach : n ≤ 140737488351232) (hv : 65535 - fold (wsum xs) = v) :
    Calls Try.prog 12 #[.slice A n c] w fun e w' => e = .returned (.int .u16 v) ∧ Fr [] w w' := hv ▸ of_any A n c xs w hl hrd hreach
theorem upd_is {a b c v : Nat} {w : World} (h1 : a < 65536) (h2 : b < 65536) (h3 : c < 65536) (hv : upd a b c = v) :
    Calls Try.prog 14 #[.int .u16 a, .int .u16 b, .int .u16 c] w fun e w' => e = .returned (.int .u16 v) ∧ Fr [] w w' := hv ▸ update_any a b c w h1 h2 h3

set_option maxRecDepth 100000 in
set_option maxHeartbeats 1000000 in
theorem awake_any (w : World) : Calls Try.prog 5 #[] w fun e w' => e = .returned (.bool true) ∧ Fr [] w w' := by
  have hrd0 := rd_new w [69, 0, 0, 0, 0, 0] 5
  go_enter Try.func5, Try.ntmps5
  go_wp2_with fail
  refine (show Calls _ _ _ _ (FixYes _ [69, 0, 0, 0, 0, 0] 2 6) from fix_yes _ 6 6 [69, 0, 0, 0, 0, 0] 2 _ rfl hrd0 (by decide) rfl (by decide)).mono ?_
  rintro e w1 ⟨g, c, rfl, ho, hF⟩
  replace hF : Fr [] w w1 := ((Fr.refl _ w).alloc _).trans hF
  rw [show fixed [69, 0, 0, 0, 0, 0] 2 = [69, 0, 186, 255, 0, 0] from by decide] at ho
  have hR := Rd.own ho
  clear hrd0 ho
  go_wp2_with fail
  refine (show Calls _ _ _ _ (fun e w' => e = .returned (.tuple #[.int .u16 5148, .int .i64 0]) ∧ Fr [] w1 w') from pseudo_yes 167772161 167772162 17 8 w1 (by decide) (by decide) (by decide) (by decide)).mono ?_
  rintro e w2 ⟨rfl, hF2⟩
  replace hF := hF.trans hF2
  replace hR := hR.fr hF2 (by simp)
  clear hF2
  go_wp2_with fail
  refine (show Calls _ _ _ _ (fun e w' => e = .returned (.int .u16 1030) ∧ Fr [] _ w') from sum_is (n := 4) (c := 4) (v := 1030) (xs := [1, 2, 3, 4]) rfl (rd_new w2 _ 5) (by decide) (by decide)).mono ?_
  rintro e w3 ⟨rfl, hF3⟩
  replace hF3 : Fr [] w2 w3 := ((Fr.refl _ w2).alloc _).trans hF3
  replace hF := hF.trans hF3
  replace hR := hR.fr hF3 (by simp)
  clear hF3
  go_wp2_with fail
  refine (show Calls _ _ _ _ (fun e w' => e = .returned (.int .u16 64505) ∧ Fr [] _ w') from of_is (n := 4) (c := 4) (v := 64505) (xs := [1, 2, 3, 4]) rfl (rd_new w3 _ 5) (by decide) (by decide)).mono ?_
  rintro e w4 ⟨rfl, hF4⟩
  replace hF4 : Fr [] w3 w4 := ((Fr.refl _ w3).alloc _).trans hF4
  replace hF := hF.trans hF4
  replace hR := hR.fr hF4 (by simp)
  clear hF4
  go_wp2_with fail
  refine (show Calls _ _ _ _ (fun e w' => e = .returned (.int .u16 1026) ∧ Fr [] _ w') from sum_is (n := 3) (c := 3) (v := 1026) (xs := [1, 2, 3]) rfl (rd_new w4 _ 5) (by decide) (by decide)).mono ?_
  rintro e w5 ⟨rfl, hF5⟩
  replace hF5 : Fr [] w4 w5 := ((Fr.refl _ w4).alloc _).trans hF5
  replace hF := hF.trans hF5
  replace hR := hR.fr hF5 (by simp)
  clear hF5
  go_wp2_with fail
  refine (show Calls _ _ _ _ (fun e w' => e = .returned (.int .u16 1) ∧ Fr [] _ w') from sum_is (n := 4) (c := 4) (v := 1) (xs := [255, 255, 0, 1]) rfl (rd_new w5 _ 5) (by decide) (by decide)).mono ?_
  rintro e w6 ⟨rfl, hF6⟩
  replace hF6 : Fr [] w5 w6 := ((Fr.refl _ w5).alloc _).trans hF6
  replace hF := hF.trans hF6
  replace hR := hR.fr hF6 (by simp)
  clear hF6
  go_wp2_with fail
  refine (show Calls _ _ _ _ (fun e w' => e = .returned (.int .u16 0) ∧ Fr [] _ w') from sum_is (A := none) (n := 0) (c := 0) (v := 0) (xs := []) rfl (Rd.nil _ _) (by decide) (by decide)).mono ?_
  rintro e w7 ⟨rfl, hF7⟩
  replace hF := hF.trans hF7
  replace hR := hR.fr hF7 (by simp)
  clear hF7
  go_wp2_with fail
  refine (show Calls _ _ _ _ (fun e w' => e = .returned (.int .u16 65535) ∧ Fr [] _ w') from of_is (n := 3) (c := 3) (v := 65535) (xs := [0, 0, 0]) rfl (rd_new w7 _ 5) (by decide) (by decide)).mono ?_
  rintro e w8 ⟨rfl, hF8⟩
  replace hF8 : Fr [] w7 w8 := ((Fr.refl _ w7).alloc _).trans hF8
  replace hF := hF.trans hF8
  replace hR := hR.fr hF8 (by simp)
  clear hF8
  have hFa : Fr [] w8 (w8.alloc (.cells (B8 [69, 0, 186, 255, 0, 0]).toArray 5)) := (Fr.refl _ w8).alloc _
  have hrd2 := rd_new w8 [69, 0, 186, 255, 0, 0] 5
  go_wp2_with fail
  refine (show Calls _ _ _ _ (fun e w' => e = .returned (.bool true) ∧ SameW _ w') from same_any (some ⟨g, 0, none⟩) (some ⟨w8.heap.size, 0, none⟩) 6 6 c 6 [69, 0, 186, 255, 0, 0] [69, 0, 186, 255, 0, 0] _ rfl rfl (hR.fr hFa (by simp)) hrd2 (by decide)).mono ?_
  rintro e w9 ⟨rfl, hS9⟩
  replace hF := (hF.trans hFa).trans hS9.fr
  clear hFa hrd2 hS9 hR
  go_wp2_with fail
  refine (show Calls _ _ _ _ (fun e w' => e = .returned (.int .u16 64504) ∧ Fr [] _ w') from upd_is (a := 64505) (b := 258) (c := 259) (v := 64504) (w := w9) (by decide) (by decide) (by decide) (by decide)).mono ?_
  rintro e w10 ⟨rfl, hF10⟩
  replace hF := hF.trans hF10
  clear hF10
  go_wp2_with fail
  refine (show Calls _ _ _ _ (fun e w' => e = .returned (.int .u16 0) ∧ Fr [] _ w') from upd_is (a := 65277) (b := 258) (c := 0) (v := 0) (w := w10) (by decide) (by decide) (by decide) (by decide)).mono ?_
  rintro e w11 ⟨rfl, hF11⟩
  replace hF := hF.trans hF11
  clear hF11
  go_wp2_with fail
  refine (show Calls _ _ _ _ (fun e w' => e = .returned (.int .u16 65277) ∧ Fr [] _ w') from of_is (n := 2) (c := 2) (v := 65277) (xs := [1, 2]) rfl (rd_new w11 _ 5) (by decide) (by decide)).mono ?_
  rintro e w12 ⟨rfl, hF12⟩
  replace hF12 : Fr [] w11 w12 := ((Fr.refl _ w11).alloc _).trans hF12
  replace hF := hF.trans hF12
  clear hF12
  go_wp2_with fail
  go_ret
  exact ⟨rfl, hF⟩

end Go.Proofs.Ytdkpmbefnfdbkab
