/- The examples of the chapter: awake. -/
import Derived.Test.YtbgikpbhjeanoaaEq
import Derived.Test.YtbgikpbhjeanoaaWn
import Derived.Test.YtbgikpbhjeanoaaUnh
namespace Go.Proofs.Ytbgikpbhjeanoaa
open Go.RowKit

section
variable {w a b : World} {base g : Nat} {v : Value}
theorem Fr.one (h : Fr [] w a) (k : Fr [g] a b) (hg : w.heap.size ≤ g) : Fr [] w b := h.trans2 k (by intro t ht; rw [List.mem_singleton] at ht; subst ht; exact .inr hg)
theorem WrAt.far {xs : List UInt8} {lim : Nat} {f : Bool} (hW : WrAt a base g v xs lim f) (hb : w.heap.size ≤ base) (h : Fr [] w a) (k : Fr (g :: v.ownBlock.toList) a b) : Fr [] w b :=
  h.trans2 k (by
    intro t ht
    right
    rcases List.mem_cons.1 ht with rfl | ht
    · have := hW.lo; omega
    · have := (hW.own.lt t (by simpa using ht)).1; omega)
theorem WrAt.far2 {xs : List UInt8} {lim : Nat} {f : Bool} (hW : WrAt a base g v xs lim f) (hb : w.heap.size ≤ base) (h : Fr [] w a) (k : Fr v.ownBlock.toList a b) : Fr [] w b :=
  hW.far hb h (k.mono fun s hs => .inl (List.mem_cons_of_mem _ hs))
theorem RdAt.far {bs : List UInt8} {at_ : Nat} {f : Bool} (hR : RdAt a base g v bs at_ f) (hb : w.heap.size ≤ base) (h : Fr [] w a) (k : Fr [g] a b) : Fr [] w b := h.one k (by have := hR.lo; omega)
end

theorem RdAt.low {w : World} {base base' g : Nat} {v : Value} {bs : List UInt8} {at_ : Nat} {f : Bool} (h : RdAt w base g v bs at_ f) (hb : base' ≤ base) : RdAt w base' g v bs at_ f :=
  ⟨h.blk, own_ext h.own hb, h.ne, Nat.le_trans hb h.lo, h.at_le, h.len⟩
theorem WrAt.low {w : World} {base base' g : Nat} {v : Value} {xs : List UInt8} {lim : Nat} {f : Bool} (h : WrAt w base g v xs lim f) (hb : base' ≤ base) : WrAt w base' g v xs lim f :=
  ⟨h.blk, own_ext h.own hb, h.ne, Nat.le_trans hb h.lo, h.le, h.lim_le⟩
/-- 'Unhex' of a string that is no text. -/
theorem unhex_bad (s : ByteArray) (w : World) (hs : s.size ≤ 262144) (hbad : s.size % 2 = 1 ∨ ¬ AllDig s.data.toList) :
    Calls Try.prog 37 #[.string s] w fun e w' => e = .returned (.tuple #[.slice none 0 0, .int .i64 10]) ∧ Fr [] w w' := by
  by_cases ho : s.size % 2 = 1
  · exact unhex_odd s w hs ho
  · refine (unhex_even s w hs (s.size / 2) (by omega)).mono ?_
    rintro e w' ⟨h, hF⟩
    rcases h with ⟨hd, _⟩ | ⟨_, h⟩
    · rcases hbad with hb | hb
      · exact absurd hb ho
      · exact absurd hd hb
    · exact ⟨h, hF⟩
def UnhYes (w : World) (L : List UInt8) (e : Ending) (w' : World) : Prop := ∃ u, e = .returned (.tuple #[u, .int .i64 0]) ∧ w'.ownsRow w.heap.size 5 1 u (L.length / 2) (B8 (decK L (L.length / 2))) ∧ Fr [] w w'
theorem unhex_yes (s : ByteArray) (w : World) (hs : s.size ≤ 262144) (he : s.size % 2 = 0) (hd : AllDig s.data.toList) :
    Calls Try.prog 37 #[.string s] w (UnhYes w s.data.toList) := by
  refine (unhex_even s w hs (s.size / 2) (by omega)).mono ?_
  rintro e w' ⟨h, hF⟩
  rcases h with ⟨_, u, h, ho⟩ | ⟨hb, _⟩
  · exact ⟨u, h, ho, hF⟩
  · exact absurd hd hb

set_option maxRecDepth 100000 in
set_option maxHeartbeats 1000000 in
theorem awake_any (w : World) : Calls Try.prog 12 #[] w fun e w' => e = .returned (.bool true) ∧ Fr [] w w' := by
  have hrd0 := rd_new w [1, 2, 3, 4, 5] 5 0
  go_enter Try.func12, Try.ntmps12
  go_wp2_with fail
  refine (newR_yes _ 5 5 [1, 2, 3, 4, 5] _ rfl hrd0 (by decide)).mono ?_
  rintro e w1 ⟨g, v, rfl, hR, hF⟩
  replace hF : Fr [] w w1 := ((Fr.refl _ w).alloc _).trans hF
  replace hR : RdAt w1 w.heap.size g v [1, 2, 3, 4, 5] 0 false := hR.low (by show _ ≤ (w.alloc _).heap.size; simp)
  clear hrd0
  go_wp2_with fail
  refine (show Calls _ _ _ _ (RdYes w1 _ g v _ 2 (.int .u16 258)) from rU16_yes hR (x := 1) (y := 2) rfl).mono ?_
  rintro e w2 ⟨rfl, hR2, hF2⟩
  replace hF := hR.far (Nat.le_refl _) hF hF2
  clear hR hF2
  go_wp2_with fail
  refine (rAt hR2).mono ?_
  rintro e w3 ⟨rfl, rfl⟩
  go_wp2_with fail
  refine (rLeft hR2).mono ?_
  rintro e w3 ⟨rfl, hR3, hF3⟩
  replace hF := hF.trans hF3
  clear hR2 hF3
  go_wp2_with fail
  refine (rFailed hR3).mono ?_
  rintro e w4 ⟨rfl, rfl⟩
  go_wp2_with fail
  refine (rU32_no hR3 (.inr (by decide))).mono ?_
  rintro e w4 ⟨rfl, hR4, hF4⟩
  replace hF := hR3.far (Nat.le_refl _) hF hF4
  clear hR3 hF4
  go_wp2_with fail
  refine (rFailed hR4).mono ?_
  rintro e w5 ⟨rfl, rfl⟩
  go_wp2_with fail
  refine (rU8_no hR4 (.inl rfl)).mono ?_
  rintro e w5 ⟨rfl, hR5, hF5⟩
  replace hF := hR4.far (Nat.le_refl _) hF hF5
  clear hR4 hF5
  go_wp2_with fail
  refine (rAt hR5).mono ?_
  rintro e w6 ⟨rfl, rfl⟩
  clear hR5
  go_wp2_with fail
  have hsz := hF.size
  refine (newW_yes 5 _ (by decide)).mono ?_
  rintro e w6 ⟨g2, rfl, hW, hF6⟩
  replace hF := hF.trans hF6
  clear hF6
  replace hW : WrAt w6 w.heap.size g2 (.slice none 0 0) [] 5 false := hW.low hsz
  have hs6 := hF.size
  clear hsz
  go_wp2_with fail
  refine (wU8_yes hW (z := 7) (by decide) (by decide) hs6 (by decide)).mono ?_
  rintro e w7 ⟨v7, rfl, hW7, hF7, -⟩
  replace hF := hW.far (Nat.le_refl _) hF hF7
  have hs7 := hF.size
  clear hW hF7 hs6
  go_wp2_with fail
  refine (wU16_yes hW7 (z := 258) (by decide) (by decide) hs7 (by decide)).mono ?_
  rintro e w8 ⟨v8, rfl, hW8, hF8, -⟩
  replace hF := hW7.far (Nat.le_refl _) hF hF8
  have hs8 := hF.size
  clear hW7 hF8 hs7
  go_wp2_with fail
  refine (wZeros_yes hW8 (n := 1) hs8 (by decide)).mono ?_
  rintro e w9 ⟨v9, rfl, hW9, hF9, -⟩
  replace hF := hW8.far (Nat.le_refl _) hF hF9
  have hs9 := hF.size
  clear hW8 hF9 hs8
  go_wp2_with fail
  refine (wSet_yes hW9 (k := 2) (z := 65535) (by decide) (by decide) (by decide)).mono ?_
  rintro e w10 ⟨rfl, hW10, hF10⟩
  replace hF := hW9.far2 (Nat.le_refl _) hF hF10
  have hs10 := hF.size
  clear hW9 hF10 hs9
  replace hW10 : WrAt w10 w.heap.size g2 v9 [7, 1, 255, 255] 5 false := hW10
  go_wp2_with fail
  refine (wDone_yes hW10).mono ?_
  rintro e w11 ⟨u, rfl, hu, hF11⟩
  obtain ⟨A, c, hv, hc4, hcm, -⟩ := own_slice hu
  replace hv : u = .slice A 4 c := hv
  subst hv
  have hrd := Rd.own hu
  have hA : ∀ ad, A = some ad → w10.heap.size ≤ ad.block := fun ad e => (hu.lt ad.block (by rw [e]; rfl)).1
  clear hu
  replace hF := hF.trans hF11
  have hg2 := hW10.not_size
  replace hW10 := hW10.fr hF11 (by simp) (by simp)
  have hs11 := hF.size
  clear hF11
  go_wp2_with fail
  refine (wU16_no hW10 (z := 1) (by decide) (by decide) (.inr (by decide))).mono ?_
  rintro e w12 ⟨rfl, hW12, hF12⟩
  replace hF := hF.one hF12 hW10.lo
  replace hrd := hrd.fr hF12 (by intro ad e; have := hA ad e; simp; omega)
  clear hW10 hF12
  go_wp2_with fail
  refine (wDone_no hW12).mono ?_
  rintro e w13 ⟨rfl, rfl⟩
  have hFa : Fr [] w12 (w12.alloc (.cells (B8 [7, 1, 255, 255]).toArray 5)) := (Fr.refl _ w12).alloc _
  have hrd2 := rd_new w12 [7, 1, 255, 255] 5 0
  go_wp2_with fail
  refine (show Calls _ _ _ _ (fun e w' => e = .returned (.bool true) ∧ SameW _ w') from same_any A (some ⟨w12.heap.size, 0, none⟩) 4 4 c 4 [7, 1, 255, 255] [7, 1, 255, 255] _ rfl rfl (hrd.fr hFa (by simp)) hrd2 (by decide)).mono ?_
  rintro e w14 ⟨rfl, hS14⟩
  replace hW12 := hW12.fr (hFa.trans hS14.fr) (by simp) (by simp)
  replace hF := (hF.trans hFa).trans hS14.fr
  clear hFa hrd2 hrd hA hS14
  go_wp2_with fail
  refine (show Calls _ _ _ _ (fun e w' => e = .returned (.int .i64 4) ∧ w14 = w') from wLen hW12).mono ?_
  rintro e w15 ⟨rfl, rfl⟩
  clear hW12
  have hrd3 := rd_new w14 [0, 31, 255] 5 0
  replace hF : Fr [] w (w14.alloc (.cells (B8 [0, 31, 255]).toArray 5)) := hF.alloc _
  go_wp2_with fail
  refine (show Calls _ _ _ _ (fun e w' => e = .returned (.tuple #[.string ⟨#[48, 48, 49, 102, 102, 102]⟩, .int .i64 0]) ∧ Fr [] _ w') from hex_yes (some ⟨w14.heap.size, 0, none⟩) 3 3 [0, 31, 255] _ rfl hrd3 (by decide)).mono ?_
  rintro e w16 ⟨rfl, hF16⟩
  replace hF := hF.trans hF16
  clear hF16 hrd3
  go_wp2_with fail
  refine (unhex_yes ⟨#[]⟩ w16 (by decide) (by decide) (by intro i hi; exact absurd hi (by simp))).mono ?_
  rintro e w17 ⟨u, rfl, hu, hF17⟩
  obtain ⟨A2, c2, hv, -⟩ := own_slice hu
  replace hv : u = .slice A2 0 c2 := hv
  subst hv
  replace hF := hF.trans hF17
  clear hF17 hu
  go_wp2_with fail
  have hblk := heap_alloc_new w17 (.cells #[.string ⟨#[48, 48, 49, 70, 70, 70]⟩, .string ⟨#[49]⟩, .string ⟨#[48, 103]⟩] 9)
  replace hF : Fr [] w (w17.alloc (.cells #[.string ⟨#[48, 48, 49, 70, 70, 70]⟩, .string ⟨#[49]⟩, .string ⟨#[48, 103]⟩] 9)) := hF.alloc _
  have HB := Lib.hid hblk
  clear hblk
  refine wp_loop_rounds 4 ?_
  rw [rounds_succ]
  go_wp2_with fail
  refine (unhex_bad ⟨#[48, 48, 49, 70, 70, 70]⟩ _ (by decide) (.inr fun h => absurd (h 3 (by decide)) (by decide))).mono ?_
  rintro e w20 ⟨rfl, hF20⟩
  replace hF := hF.trans hF20
  replace HB := Lib.hid (hF20.blk HB.out (by simp))
  clear hF20
  have hc0 : w20.cell? ⟨w17.heap.size, 1, none⟩ = some (.string ⟨#[49]⟩) := by simp [World.cell?, HB.out]
  go_wp2_with fail
  rw [rounds_succ]
  go_wp2_with fail
  refine (unhex_bad ⟨#[49]⟩ _ (by decide) (.inl (by decide))).mono ?_
  rintro e w21 ⟨rfl, hF21⟩
  replace hF := hF.trans hF21
  replace HB := Lib.hid (hF21.blk HB.out (by simp))
  clear hF21
  have hc1 : w21.cell? ⟨w17.heap.size, 2, none⟩ = some (.string ⟨#[48, 103]⟩) := by simp [World.cell?, HB.out]
  go_wp2_with fail
  rw [rounds_succ]
  go_wp2_with fail
  refine (unhex_bad ⟨#[48, 103]⟩ _ (by decide) (.inr fun h => absurd (h 1 (by decide)) (by decide))).mono ?_
  rintro e w22 ⟨rfl, hF22⟩
  replace hF := hF.trans hF22
  replace HB := Lib.hid (hF22.blk HB.out (by simp))
  clear hF22
  go_wp2_with fail
  rw [rounds_succ]
  go_wp2_with fail
  go_ret
  exact ⟨rfl, hF.alk rfl rfl rfl rfl⟩
end Go.Proofs.Ytbgikpbhjeanoaa
