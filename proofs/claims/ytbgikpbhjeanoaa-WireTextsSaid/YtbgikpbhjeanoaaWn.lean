/- Writers: numbers; Set16. -/
import Derived.Test.YtbgikpbhjeanoaaWr
import Derived.Test.YtbgikpbhjeanoaaHex
import Derived.Deep.RegionHeld3
namespace Go.Proofs.Ytbgikpbhjeanoaa
open Go.RowKit

def n8 (v : Int) : UInt8 := UInt8.ofNat v.toNat
theorem n8_cell {v : Int} (h0 : 0 ≤ v) (h1 : v < 256) : Value.int .u8 v = Value.int .u8 ((n8 v).toNat : Int) := by
  congr 1
  simp only [n8, UInt8.toNat_ofNat']
  omega
def be1 (v : Int) : List UInt8 := [n8 v]
def be2 (v : Int) : List UInt8 := [n8 (v / 256), n8 (v % 256)]
def be4 (v : Int) : List UInt8 := [n8 (v / 16777216), n8 (v / 65536 % 256), n8 (v / 256 % 256), n8 (v % 256)]
theorem be1_cells {v : Int} (h0 : 0 ≤ v) (h1 : v < 256) : #[Value.int .u8 v] = (B8 (be1 v)).toArray := by
  rw [n8_cell h0 h1]; rfl
theorem be2_cells {v : Int} (h0 : 0 ≤ v) (h1 : v < 65536) : #[Value.int .u8 (v / 256), Value.int .u8 (v % 256)] = (B8 (be2 v)).toArray := by
  rw [n8_cell (v := v / 256) (by omega) (by omega), n8_cell (v := v % 256) (by omega) (by omega)]; rfl
theorem be4_cells {v : Int} (h0 : 0 ≤ v) (h1 : v < 4294967296) : #[Value.int .u8 (v / 16777216), Value.int .u8 (v / 65536 % 256), Value.int .u8 (v / 256 % 256), Value.int .u8 (v % 256)] = (B8 (be4 v)).toArray := by
  rw [n8_cell (v := v / 16777216) (by omega) (by omega), n8_cell (v := v / 65536 % 256) (by omega) (by omega), n8_cell (v := v / 256 % 256) (by omega) (by omega), n8_cell (v := v % 256) (by omega) (by omega)]; rfl

section
variable {w : World} {base g : Nat} {v : Value} {xs : List UInt8} {lim : Nat} {f : Bool}

set_option maxRecDepth 20000 in
set_option maxHeartbeats 400000 in
theorem wU8_yes (h : WrAt w base g v xs lim false) {z : Int} (h0 : 0 ≤ z) (h1 : z < 256) (hb : base ≤ w.heap.size) (hn : xs.length + 1 ≤ lim) :
    Calls Try.prog 17 #[.pointer (some ⟨g, 0, none⟩), .int .u8 z] w (WrYes w base g v (xs ++ be1 z) lim) := by
  go_enter Try.func17, Try.ntmps17
  go_wp2_with fail
  refine (bof8 z w h0 h1).mono ?_
  rintro e w1 ⟨rfl, hw⟩
  rw [be1_cells h0 h1] at hw
  have hF : Fr [] w w1 := by rw [hw]; exact (Fr.refl _ w).alloc _
  have hrd : Rd w1 (some ⟨w.heap.size, 0, none⟩) (B8 (be1 z)) := by rw [hw]; exact rd_new w _ _ 0
  have hsz := hF.size
  clear hw
  go_wp2_with fail
  refine (wBytes_yes (h.fr hF (by simp) (by simp)) (ys := be1 z) rfl hrd (by simp) (by omega) hn).mono ?_
  rintro e w2 ⟨v', rfl, hW, hF2, hat⟩
  have hF3 : Fr (g :: v.ownBlock.toList) w w2 := (hF.mono (by simp)).trans hF2
  have HAT : Hid (v'.ownBlock = v.ownBlock ∨ ∀ k, v'.ownBlock = some k → w.heap.size ≤ k) := by
    rcases hat with hat | hat
    · exact .inl hat
    · exact .inr fun k hk => by have := hat k hk; omega
  clear hat hF2
  go_wp2_with fail
  go_end0
  exact ⟨_, rfl, hW, hF3, HAT.out⟩

set_option maxRecDepth 20000 in
set_option maxHeartbeats 400000 in
theorem wU8_no (h : WrAt w base g v xs lim f) {z : Int} (h0 : 0 ≤ z) (h1 : z < 256) (hn : f = true ∨ lim < xs.length + 1) :
    Calls Try.prog 17 #[.pointer (some ⟨g, 0, none⟩), .int .u8 z] w (WrNo w base g v xs lim) := by
  go_enter Try.func17, Try.ntmps17
  go_wp2_with fail
  refine (bof8 z w h0 h1).mono ?_
  rintro e w1 ⟨rfl, hw⟩
  have hF : Fr [] w w1 := by rw [hw]; exact (Fr.refl _ w).alloc _
  clear hw
  go_wp2_with fail
  refine (wBytes_no (h.fr hF (by simp) (by simp)) (n := 1) hn).mono ?_
  rintro e w2 ⟨rfl, hW, hF2⟩
  have hF3 : Fr [g] w w2 := (hF.mono (by simp)).trans hF2
  clear hF2
  go_wp2_with fail
  go_end0
  exact ⟨rfl, hW, hF3⟩

set_option maxRecDepth 20000 in
set_option maxHeartbeats 400000 in
theorem wU16_yes (h : WrAt w base g v xs lim false) {z : Int} (h0 : 0 ≤ z) (h1 : z < 65536) (hb : base ≤ w.heap.size) (hn : xs.length + 2 ≤ lim) :
    Calls Try.prog 18 #[.pointer (some ⟨g, 0, none⟩), .int .u16 z] w (WrYes w base g v (xs ++ be2 z) lim) := by
  go_enter Try.func18, Try.ntmps18
  go_wp2_with fail
  refine (bof16 z w h0 h1).mono ?_
  rintro e w1 ⟨rfl, hw⟩
  rw [be2_cells h0 h1] at hw
  have hF : Fr [] w w1 := by rw [hw]; exact (Fr.refl _ w).alloc _
  have hrd : Rd w1 (some ⟨w.heap.size, 0, none⟩) (B8 (be2 z)) := by rw [hw]; exact rd_new w _ _ 0
  have hsz := hF.size
  clear hw
  go_wp2_with fail
  refine (wBytes_yes (h.fr hF (by simp) (by simp)) (ys := be2 z) rfl hrd (by simp) (by omega) hn).mono ?_
  rintro e w2 ⟨v', rfl, hW, hF2, hat⟩
  have hF3 : Fr (g :: v.ownBlock.toList) w w2 := (hF.mono (by simp)).trans hF2
  have HAT : Hid (v'.ownBlock = v.ownBlock ∨ ∀ k, v'.ownBlock = some k → w.heap.size ≤ k) := by
    rcases hat with hat | hat
    · exact .inl hat
    · exact .inr fun k hk => by have := hat k hk; omega
  clear hat hF2
  go_wp2_with fail
  go_end0
  exact ⟨_, rfl, hW, hF3, HAT.out⟩

set_option maxRecDepth 20000 in
set_option maxHeartbeats 400000 in
theorem wU16_no (h : WrAt w base g v xs lim f) {z : Int} (h0 : 0 ≤ z) (h1 : z < 65536) (hn : f = true ∨ lim < xs.length + 2) :
    Calls Try.prog 18 #[.pointer (some ⟨g, 0, none⟩), .int .u16 z] w (WrNo w base g v xs lim) := by
  go_enter Try.func18, Try.ntmps18
  go_wp2_with fail
  refine (bof16 z w h0 h1).mono ?_
  rintro e w1 ⟨rfl, hw⟩
  have hF : Fr [] w w1 := by rw [hw]; exact (Fr.refl _ w).alloc _
  clear hw
  go_wp2_with fail
  refine (wBytes_no (h.fr hF (by simp) (by simp)) (n := 2) hn).mono ?_
  rintro e w2 ⟨rfl, hW, hF2⟩
  have hF3 : Fr [g] w w2 := (hF.mono (by simp)).trans hF2
  clear hF2
  go_wp2_with fail
  go_end0
  exact ⟨rfl, hW, hF3⟩

set_option maxRecDepth 20000 in
set_option maxHeartbeats 400000 in
theorem wU32_yes (h : WrAt w base g v xs lim false) {z : Int} (h0 : 0 ≤ z) (h1 : z < 4294967296) (hb : base ≤ w.heap.size) (hn : xs.length + 4 ≤ lim) :
    Calls Try.prog 19 #[.pointer (some ⟨g, 0, none⟩), .int .u32 z] w (WrYes w base g v (xs ++ be4 z) lim) := by
  go_enter Try.func19, Try.ntmps19
  go_wp2_with fail
  refine (bof32 z w h0 h1).mono ?_
  rintro e w1 ⟨rfl, hw⟩
  rw [be4_cells h0 h1] at hw
  have hF : Fr [] w w1 := by rw [hw]; exact (Fr.refl _ w).alloc _
  have hrd : Rd w1 (some ⟨w.heap.size, 0, none⟩) (B8 (be4 z)) := by rw [hw]; exact rd_new w _ _ 0
  have hsz := hF.size
  clear hw
  go_wp2_with fail
  refine (wBytes_yes (h.fr hF (by simp) (by simp)) (ys := be4 z) rfl hrd (by simp) (by omega) hn).mono ?_
  rintro e w2 ⟨v', rfl, hW, hF2, hat⟩
  have hF3 : Fr (g :: v.ownBlock.toList) w w2 := (hF.mono (by simp)).trans hF2
  have HAT : Hid (v'.ownBlock = v.ownBlock ∨ ∀ k, v'.ownBlock = some k → w.heap.size ≤ k) := by
    rcases hat with hat | hat
    · exact .inl hat
    · exact .inr fun k hk => by have := hat k hk; omega
  clear hat hF2
  go_wp2_with fail
  go_end0
  exact ⟨_, rfl, hW, hF3, HAT.out⟩

set_option maxRecDepth 20000 in
set_option maxHeartbeats 400000 in
theorem wU32_no (h : WrAt w base g v xs lim f) {z : Int} (h0 : 0 ≤ z) (h1 : z < 4294967296) (hn : f = true ∨ lim < xs.length + 4) :
    Calls Try.prog 19 #[.pointer (some ⟨g, 0, none⟩), .int .u32 z] w (WrNo w base g v xs lim) := by
  go_enter Try.func19, Try.ntmps19
  go_wp2_with fail
  refine (bof32 z w h0 h1).mono ?_
  rintro e w1 ⟨rfl, hw⟩
  have hF : Fr [] w w1 := by rw [hw]; exact (Fr.refl _ w).alloc _
  clear hw
  go_wp2_with fail
  refine (wBytes_no (h.fr hF (by simp) (by simp)) (n := 4) hn).mono ?_
  rintro e w2 ⟨rfl, hW, hF2⟩
  have hF3 : Fr [g] w w2 := (hF.mono (by simp)).trans hF2
  clear hF2
  go_wp2_with fail
  go_end0
  exact ⟨rfl, hW, hF3⟩

theorem wr_setrow {w' : World} (h : WrAt w base g v xs lim f) {g2 c : Nat} (hv : v = .slice (some ⟨g2, 0, none⟩) xs.length c) {xs' : List UInt8} (hl : xs'.length = xs.length) (ho : w'.ownsRow base 5 1 v xs.length (B8 xs')) (hF : Fr [g2] w w') : WrAt w' base g v xs' lim f := by
  have hne := h.ne
  rw [hv] at hne
  have hg : g ≠ g2 := by intro e; subst e; exact hne rfl
  exact ⟨hF.blk h.blk (by simpa using hg), by rw [hl]; exact ho, h.ne, h.lo, by rw [hl]; exact h.le, h.lim_le⟩

def SetYes (w : World) (base g : Nat) (v : Value) (xs : List UInt8) (lim : Nat) (e : Ending) (w' : World) : Prop :=
  e = .returned (.tuple #[]) ∧ WrAt w' base g v xs lim false ∧ Fr v.ownBlock.toList w w'

set_option maxRecDepth 20000 in
set_option maxHeartbeats 400000 in
theorem wSet_no1 (h : WrAt w base g v xs lim f) {at_ z : Int} (hn : at_ < 0) :
    Calls Try.prog 35 #[.pointer (some ⟨g, 0, none⟩), .int .i64 at_, .int .u16 z] w (WrNo w base g v xs lim) := by
  have h0 := h.c0
  have h3 := h.c3
  have hf3 := h.fz 3
  have H := Lib.hid (h.set3 true)
  have hF := fr_set w g 3 (.bool true)
  clear h
  have hd1 : decide (at_ < 0) = true := by simpa using hn
  go_enter Try.func35, Try.ntmps35
  go_wp2_with (go_at_call 55; refine (madeW _ _ h0).mono ?_; rintro e w' ⟨rfl, rfl⟩)
  go_end0
  exact ⟨rfl, H.out, hF⟩

set_option maxRecDepth 20000 in
set_option maxHeartbeats 400000 in
theorem wSet_no2 (h : WrAt w base g v xs lim f) {at_ z : Int} (hn0 : 0 ≤ at_) (hn : (xs.length : Int) - 2 < at_) :
    Calls Try.prog 35 #[.pointer (some ⟨g, 0, none⟩), .int .i64 at_, .int .u16 z] w (WrNo w base g v xs lim) := by
  obtain ⟨A, c, rfl, hc, hc2, _⟩ := own_slice h.own
  have hle := h.le
  have hlim := h.lim_le
  have h0 := h.c0
  have h1 := h.c1
  have h3 := h.c3
  have hf3 := h.fz 3
  have H := Lib.hid (h.set3 true)
  have hF := fr_set w g 3 (.bool true)
  clear h
  have hd1 : decide (at_ < 0) = false := by simpa using hn0
  have hd2 : decide ((xs.length : Int) - 2 < at_) = true := by simpa using hn
  go_enter Try.func35, Try.ntmps35
  go_wp2_with (go_at_call 55; refine (madeW _ _ h0).mono ?_; rintro e w' ⟨rfl, rfl⟩)
  go_end0
  exact ⟨rfl, H.out, hF⟩

set_option maxRecDepth 20000 in
set_option maxHeartbeats 400000 in
theorem wSet_no3 (h : WrAt w base g v xs lim true) {at_ z : Int} (hn0 : 0 ≤ at_) (hn : at_ ≤ (xs.length : Int) - 2) :
    Calls Try.prog 35 #[.pointer (some ⟨g, 0, none⟩), .int .i64 at_, .int .u16 z] w (WrNo w base g v xs lim) := by
  obtain ⟨A, c, rfl, hc, hc2, _⟩ := own_slice h.own
  have hle := h.le
  have hlim := h.lim_le
  have h0 := h.c0
  have h1 := h.c1
  have h3 := h.c3
  have H := Lib.hid h
  have hF := Fr.refl [g] w
  clear h
  have hd1 : decide (at_ < 0) = false := by simpa using hn0
  have hd2 : decide ((xs.length : Int) - 2 < at_) = false := by simpa using hn
  go_enter Try.func35, Try.ntmps35
  go_wp2_with (go_at_call 55; refine (madeW _ _ h0).mono ?_; rintro e w' ⟨rfl, rfl⟩)
  go_end0
  exact ⟨rfl, H.out, hF⟩

theorem wSet_no (h : WrAt w base g v xs lim f) {at_ z : Int} (hn : f = true ∨ at_ < 0 ∨ (xs.length : Int) - 2 < at_) :
    Calls Try.prog 35 #[.pointer (some ⟨g, 0, none⟩), .int .i64 at_, .int .u16 z] w (WrNo w base g v xs lim) := by
  by_cases h1 : at_ < 0
  · exact wSet_no1 h h1
  · by_cases h2 : (xs.length : Int) - 2 < at_
    · exact wSet_no2 h (by omega) h2
    · rcases hn with rfl | hn | hn
      · exact wSet_no3 h (by omega) (by omega)
      · omega
      · omega

set_option maxRecDepth 20000 in
set_option maxHeartbeats 1000000 in
theorem wSet_yes (h : WrAt w base g v xs lim false) {k : Nat} {z : Int} (hz0 : 0 ≤ z) (hz1 : z < 65536) (hk : k + 2 ≤ xs.length) :
    Calls Try.prog 35 #[.pointer (some ⟨g, 0, none⟩), .int .i64 k, .int .u16 z] w (SetYes w base g v (splice xs k (be2 z)) lim) := by
  obtain ⟨g2, c, hv, hb2, hlt2⟩ := h.own.form (by omega)
  have hle := h.le
  have hlim := h.lim_le
  have h0 := h.c0
  have h1 := h.c1
  rw [hv] at h1
  have h3 := h.c3
  have hd1 : decide ((k : Int) < 0) = false := by simp
  have hd2 : decide ((xs.length : Int) - 2 < k) = false := by simp; omega
  go_enter Try.func35, Try.ntmps35
  go_wp2_with (go_at_call 55; refine (madeW _ _ h0).mono ?_; rintro e w' ⟨rfl, rfl⟩)
  have hWr : Fr [] w (w.alloc (.cells #[Value.int .u8 (z / 256), Value.int .u8 (z % 256)] 5)).drew := ((Fr.refl _ w).alloc _).drew
  have hnews : Rd (w.alloc (.cells #[Value.int .u8 (z / 256), Value.int .u8 (z % 256)] 5)).drew (some ⟨w.heap.size, 0, none⟩) (B8 (be2 z)) := by rw [be2_cells hz0 hz1]; exact rd_new w _ _ 1
  have hW := h.fr hWr (by simp) (by simp)
  have ho := hW.own
  rw [hv] at ho
  obtain ⟨w', hr, ho2, hF⟩ := copy_run (P := Try.prog) (k := k) Try.underlying22 (by kernel_rfl) _ 3 ho ⟨w.heap.size, 0, none⟩ 2 2 (c - k) rfl hnews (B8_one _) hk
  have hsp : splice (B8 xs) k (B8 (be2 z)) = B8 (splice xs k (be2 z)) := by simp only [splice, B8_append, B8_take, B8_drop, B8_length]
  rw [hsp] at ho2
  have hsl : (splice xs k (be2 z)).length = xs.length := length_splice _ _ _ (by show k + 2 ≤ _; omega)
  rw [← hv] at ho2
  have HW2 := Lib.hid (wr_setrow hW hv hsl ho2 hF)
  have HF : Hid (Fr v.ownBlock.toList w w') := by rw [hv]; exact (hWr.mono (by simp)).trans hF
  have hS' : w'.cell? ⟨g, 1, none⟩ = some (.slice (some ⟨g2, 0, none⟩) xs.length c) := by have := HW2.out.c1; rwa [hv] at this
  have hkc : xs.length ≤ c := by have := own_slice ho; obtain ⟨_, _, h5, h6, _⟩ := this; injection h5 with _ _ h7; omega
  have hck : ¬ (c = k) := by omega
  have hki : (0 : Int) ≤ (k : Int) ∧ (k : Int) ≤ (xs.length : Int) := by omega
  have hkx : k ≤ xs.length := by omega
  clear ho ho2 hsp hsl hW hWr hnews hF h hv
  go_region_held3 (fun w' => w'.cell? ⟨g, 1, none⟩ = some (.slice (some ⟨g2, 0, none⟩) xs.length c)) ((first | go_keep | exact hS')) ((first | (refine step_cp rfl _ _ _ _ rfl hr rfl rfl ?_) | (go_at_call 52; refine (bof16 z _ hz0 hz1).mono ?_; rintro e w' ⟨rfl, rfl⟩)))
  go_end0
  exact ⟨rfl, HW2.out, HF.out⟩
end
end Go.Proofs.Ytbgikpbhjeanoaa
