/- Writers. -/
import Derived.Test.YtbgikpbhjeanoaaCl
import Derived.Test.YtbgikpbhjeanoaaBof
import Derived.Test.YtbgikpbhjeanoaaRd
namespace Go.Proofs.Ytbgikpbhjeanoaa
open Go.RowKit

theorem ptrW : Try.prog.underlying 34 = some (.pointer 84) := by kernel_rfl
theorem infoW : ∃ j, Try.prog.info? 84 = some j := by
  have h : (Try.prog.info? 84).isSome = true := by kernel_rfl
  exact Option.isSome_iff_exists.1 h
theorem eqW (a : Addr) (w : World) : (binOp .eql 34 (.pointer (some a)) (.pointer (some a))).run Try.prog w = .ok (.bool true) w := by
  obtain ⟨j, hj⟩ := infoW
  exact run_eql_ptr_same w a ptrW hj

/-- Block g is a writer that has xs, with a limit, failed or not; v holds its bytes. -/
structure WrAt (w : World) (base g : Nat) (v : Value) (xs : List UInt8) (lim : Nat) (f : Bool) : Prop where
  blk : w.heap[g]? = some (.cells #[.pointer (some ⟨g, 0, none⟩), v, .int .i64 lim, .bool f] 84 (0, 0))
  own : w.ownsRow base 5 1 v xs.length (B8 xs)
  ne : v.ownBlock ≠ some g
  lo : base ≤ g
  le : xs.length ≤ lim
  lim_le : lim ≤ 131072

section
variable {w : World} {base g : Nat} {v : Value} {xs : List UInt8} {lim : Nat} {f : Bool}
theorem WrAt.fr {w' : World} {S : List Nat} (h : WrAt w base g v xs lim f) (hf : Fr S w w') (hg : g ∉ S) (hv : ∀ k, v.ownBlock = some k → k ∉ S) : WrAt w' base g v xs lim f :=
  ⟨hf.blk h.blk hg, hf.own h.own hv, h.ne, h.lo, h.le, h.lim_le⟩
theorem WrAt.alk {w' : World} (h : WrAt w base g v xs lim f) (e1 : w'.heap = w.heap) : WrAt w' base g v xs lim f := ⟨by rw [e1]; exact h.blk, own_alk h.own e1, h.ne, h.lo, h.le, h.lim_le⟩
theorem WrAt.c0 (h : WrAt w base g v xs lim f) : w.cell? ⟨g, 0, none⟩ = some (.pointer (some ⟨g, 0, none⟩)) := by simp [World.cell?, h.blk]
theorem WrAt.c1 (h : WrAt w base g v xs lim f) : w.cell? ⟨g, 1, none⟩ = some v := by simp [World.cell?, h.blk]
theorem WrAt.c2 (h : WrAt w base g v xs lim f) : w.cell? ⟨g, 2, none⟩ = some (.int .i64 lim) := by simp [World.cell?, h.blk]
theorem WrAt.c3 (h : WrAt w base g v xs lim f) : w.cell? ⟨g, 3, none⟩ = some (.bool f) := by simp [World.cell?, h.blk]
theorem WrAt.fz (h : WrAt w base g v xs lim f) (i : Nat) : w.frozen? ⟨g, i, none⟩ = false := by simp [World.frozen?, h.blk]
theorem WrAt.set3 (h : WrAt w base g v xs lim f) (f' : Bool) : WrAt (w.setCell ⟨g, 3, none⟩ (.bool f')) base g v xs lim f' := by
  refine ⟨?_, ownsRow_setCell_other h.own h.ne _, h.ne, h.lo, h.le, h.lim_le⟩
  simp [World.setCell, Array.getElem?_modify, h.blk]
theorem WrAt.not_size (h : WrAt w base g v xs lim f) : g < w.heap.size := lt_of_block h.blk

/-- A new row of bytes takes the old one's place. -/
theorem WrAt.swap {w' : World} (h : WrAt w base g v xs lim f) {v' : Value} {xs' : List UInt8} (hg : w.grownBy w' v.ownBlock) (ho : w'.ownsRow base 5 1 v' xs'.length (B8 xs')) (hv : v'.ownBlock = v.ownBlock ∨ v'.ownBlock = some w.heap.size) (hl : xs'.length ≤ lim) :
    WrAt (w'.setCell ⟨g, 1, none⟩ v') base g v' xs' lim f ∧ Fr (g :: v.ownBlock.toList) w (w'.setCell ⟨g, 1, none⟩ v') ∧ w'.cell? ⟨g, 1, none⟩ = some v ∧ w'.frozen? ⟨g, 1, none⟩ = false := by
  have hF := fr_grown hg
  have hgn : g ∉ v.ownBlock.toList := by
    intro hm
    exact h.ne (by simpa using hm)
  have hb := hF.blk h.blk hgn
  have hlt := h.not_size
  have hne : v'.ownBlock ≠ some g := by
    rcases hv with hv | hv <;> rw [hv]
    · exact h.ne
    · intro e; injection e with e; omega
  refine ⟨⟨?_, ownsRow_setCell_other ho hne _, hne, h.lo, hl, h.lim_le⟩, ?_, by simp [World.cell?, hb], by simp [World.frozen?, hb]⟩
  · simp [World.setCell, Array.getElem?_modify, hb]
  · exact (hF.mono (by intro s hs; exact .inl (List.mem_cons_of_mem _ hs))).setCell (.inl (by simp)) _
end

set_option maxRecDepth 20000 in
set_option maxHeartbeats 400000 in
theorem madeW (g : Nat) (w : World) (h0 : w.cell? ⟨g, 0, none⟩ = some (.pointer (some ⟨g, 0, none⟩))) :
    Calls Try.prog 55 #[.pointer (some ⟨g, 0, none⟩)] w fun e w' => e = .returned (.bool true) ∧ w = w' := by
  have he := eqW ⟨g, 0, none⟩ w
  go_enter Try.func55, Try.ntmps55
  go_wp2
  go_ret
  exact ⟨rfl, rfl⟩

section
variable {w : World} {base g : Nat} {v : Value} {xs : List UInt8} {lim : Nat} {f : Bool}

set_option maxRecDepth 20000 in
set_option maxHeartbeats 400000 in
theorem room_yes (h : WrAt w base g v xs lim false) {n : Int} (h0 : 0 ≤ n) (hn : xs.length + n ≤ lim) :
    Calls Try.prog 54 #[.pointer (some ⟨g, 0, none⟩), .int .i64 n] w fun e w' => e = .returned (.bool true) ∧ WrAt w' base g v xs lim false ∧ Fr [] w w' := by
  obtain ⟨A, c, rfl, hc, hc2, _⟩ := own_slice h.own
  have hlim := h.lim_le
  have hle := h.le
  have h0 := h.c0
  have h1 := h.c1
  have h2 := h.c2
  have h3 := h.c3
  have H := Lib.hid h
  clear h
  have hw1 : IntKind.i64.wrap ((lim : Int) - xs.length) = (lim : Int) - xs.length := IntWalk.i64_in _ (by omega)
  have hd1 : decide (n < 0) = false := by simp; omega
  have hd2 : decide ((lim : Int) - xs.length < n) = false := by simp; omega
  go_enter Try.func54, Try.ntmps54
  go_wp2_with (go_at_call 55; refine (madeW _ _ h0).mono ?_; rintro e w' ⟨rfl, rfl⟩)
  go_quiet (fail)
  go_wp2
  go_ret
  exact ⟨rfl, H.out.alk rfl, (Fr.refl _ w).alk rfl rfl rfl rfl⟩

set_option maxRecDepth 20000 in
set_option maxHeartbeats 400000 in
theorem room_no1 (h : WrAt w base g v xs lim f) {n : Int} (hn : n < 0) :
    Calls Try.prog 54 #[.pointer (some ⟨g, 0, none⟩), .int .i64 n] w fun e w' => e = .returned (.bool false) ∧ WrAt w' base g v xs lim true ∧ Fr [g] w w' := by
  have h0 := h.c0
  have h3 := h.c3
  have hf3 := h.fz 3
  have H := Lib.hid (h.set3 true)
  have hF := fr_set w g 3 (.bool true)
  clear h
  have hd1 : decide (n < 0) = true := by simpa using hn
  go_enter Try.func54, Try.ntmps54
  go_wp2_with (go_at_call 55; refine (madeW _ _ h0).mono ?_; rintro e w' ⟨rfl, rfl⟩)
  go_quiet (fail)
  go_wp2
  go_ret
  exact ⟨rfl, H.out.alk rfl, hF.alk rfl rfl rfl rfl⟩

set_option maxRecDepth 20000 in
set_option maxHeartbeats 400000 in
theorem room_no2 (h : WrAt w base g v xs lim f) {n : Int} (hn0 : 0 ≤ n) (hn : lim < xs.length + n) :
    Calls Try.prog 54 #[.pointer (some ⟨g, 0, none⟩), .int .i64 n] w fun e w' => e = .returned (.bool false) ∧ WrAt w' base g v xs lim true ∧ Fr [g] w w' := by
  obtain ⟨A, c, rfl, hc, hc2, _⟩ := own_slice h.own
  have hlim := h.lim_le
  have hle := h.le
  have h0 := h.c0
  have h1 := h.c1
  have h2 := h.c2
  have h3 := h.c3
  have hf3 := h.fz 3
  have H := Lib.hid (h.set3 true)
  have hF := fr_set w g 3 (.bool true)
  clear h
  have hw1 : IntKind.i64.wrap ((lim : Int) - xs.length) = (lim : Int) - xs.length := IntWalk.i64_in _ (by omega)
  have hd1 : decide (n < 0) = false := by simp; omega
  have hd2 : decide ((lim : Int) - xs.length < n) = true := by simp; omega
  go_enter Try.func54, Try.ntmps54
  go_wp2_with (go_at_call 55; refine (madeW _ _ h0).mono ?_; rintro e w' ⟨rfl, rfl⟩)
  go_quiet (fail)
  go_wp2
  go_ret
  exact ⟨rfl, H.out.alk rfl, hF.alk rfl rfl rfl rfl⟩

set_option maxRecDepth 20000 in
set_option maxHeartbeats 400000 in
theorem room_no3 (h : WrAt w base g v xs lim true) {n : Int} (hn0 : 0 ≤ n) (hn : xs.length + n ≤ lim) :
    Calls Try.prog 54 #[.pointer (some ⟨g, 0, none⟩), .int .i64 n] w fun e w' => e = .returned (.bool false) ∧ WrAt w' base g v xs lim true ∧ Fr [g] w w' := by
  obtain ⟨A, c, rfl, hc, hc2, _⟩ := own_slice h.own
  have hlim := h.lim_le
  have hle := h.le
  have h0 := h.c0
  have h1 := h.c1
  have h2 := h.c2
  have h3 := h.c3
  have H := Lib.hid h
  have hF := Fr.refl [g] w
  clear h
  have hw1 : IntKind.i64.wrap ((lim : Int) - xs.length) = (lim : Int) - xs.length := IntWalk.i64_in _ (by omega)
  have hd1 : decide (n < 0) = false := by simp; omega
  have hd2 : decide ((lim : Int) - xs.length < n) = false := by simp; omega
  go_enter Try.func54, Try.ntmps54
  go_wp2_with (go_at_call 55; refine (madeW _ _ h0).mono ?_; rintro e w' ⟨rfl, rfl⟩)
  go_quiet (fail)
  go_wp2
  go_ret
  exact ⟨rfl, H.out.alk rfl, hF.alk rfl rfl rfl rfl⟩

theorem room_no (h : WrAt w base g v xs lim f) {n : Int} (hn : f = true ∨ n < 0 ∨ lim < xs.length + n) :
    Calls Try.prog 54 #[.pointer (some ⟨g, 0, none⟩), .int .i64 n] w fun e w' => e = .returned (.bool false) ∧ WrAt w' base g v xs lim true ∧ Fr [g] w w' := by
  by_cases h1 : n < 0
  · exact room_no1 h h1
  · by_cases h2 : (lim : Int) < xs.length + n
    · exact room_no2 h (by omega) (by omega)
    · rcases hn with rfl | hn | hn
      · exact room_no3 h (by omega) (by omega)
      · omega
      · omega

def WrNo (w : World) (base g : Nat) (v : Value) (xs : List UInt8) (lim : Nat) (e : Ending) (w' : World) : Prop := e = .returned (.tuple #[]) ∧ WrAt w' base g v xs lim true ∧ Fr [g] w w'
def WrYes (w : World) (base g : Nat) (v : Value) (xs : List UInt8) (lim : Nat) (e : Ending) (w' : World) : Prop :=
  ∃ v', e = .returned (.tuple #[]) ∧ WrAt w' base g v' xs lim false ∧ Fr (g :: v.ownBlock.toList) w w' ∧ (v'.ownBlock = v.ownBlock ∨ ∀ k, v'.ownBlock = some k → w.heap.size ≤ k)

set_option maxRecDepth 20000 in
set_option maxHeartbeats 400000 in
theorem wBytes_yes (h : WrAt w base g v xs lim false) {A : Option Addr} {n c : Nat} {ys : List UInt8} (hl : ys.length = n) (hrd : Rd w A (B8 ys)) (hnil : A = none → c = 0) (hb : base ≤ w.heap.size) (hn : xs.length + n ≤ lim) :
    Calls Try.prog 20 #[.pointer (some ⟨g, 0, none⟩), .slice A n c] w (WrYes w base g v (xs ++ ys) lim) := by
  have hlim := h.lim_le
  go_enter Try.func20, Try.ntmps20
  go_wp2_with fail
  refine (room_yes h (n := n) (by omega) (by omega)).mono ?_
  rintro e w1 ⟨rfl, hW, hF⟩
  have hsz := hF.size
  obtain ⟨v', w2, hr, ho, hg, hat⟩ := app_run el8 w1 base 22 v xs.length (B8 xs) hW.own A n c (B8 ys) (by rw [B8_length]; omega) (hrd.fr hF (by simp)) (B8_one ys) hnil (by unfold maxLen; omega) (by omega) (by omega)
  rw [← B8_append, ← hl, ← List.length_append] at ho
  obtain ⟨hW2, hF2, hc1, hf1⟩ := hW.swap hg ho hat (by simp; omega)
  have hc1' := hW.c1
  have hF3 : Fr (g :: v.ownBlock.toList) w (w2.setCell ⟨g, 1, none⟩ v') := (Fr.mono hF (by simp)).trans hF2
  have hat2 : v'.ownBlock = v.ownBlock ∨ ∀ k, v'.ownBlock = some k → w.heap.size ≤ k := by
    rcases hat with hat | hat
    · exact .inl hat
    · right; intro k hk; rw [hat] at hk; injection hk with hk; omega
  obtain ⟨A2, c2, hv, -⟩ := own_slice hW2.own
  generalize (xs ++ ys).length = L at hv
  subst hv
  have HW := Lib.hid hW2
  have HA := Lib.hid hat2
  clear hW2 hat2 hat ho hg hW hF2 hF hrd hnil
  go_wp2_with (at_builtin; refine wpList_app rfl _ _ _ rfl hr rfl rfl ?_)
  go_end0
  exact ⟨_, rfl, HW.out, hF3, HA.out⟩

set_option maxRecDepth 20000 in
set_option maxHeartbeats 400000 in
theorem wBytes_no (h : WrAt w base g v xs lim f) {A : Option Addr} {n c : Nat} (hn : f = true ∨ lim < xs.length + n) :
    Calls Try.prog 20 #[.pointer (some ⟨g, 0, none⟩), .slice A n c] w (WrNo w base g v xs lim) := by
  go_enter Try.func20, Try.ntmps20
  go_wp2_with fail
  refine (room_no h (n := n) (by rcases hn with hn | hn; exact .inl hn; exact .inr (.inr (by omega)))).mono ?_
  rintro e w1 ⟨rfl, hW, hF⟩
  go_wp2_with fail
  go_end0
  exact ⟨rfl, hW, hF⟩

set_option maxRecDepth 20000 in
set_option maxHeartbeats 400000 in
theorem wZeros_yes (h : WrAt w base g v xs lim false) {n : Nat} (hb : base ≤ w.heap.size) (hn : xs.length + n ≤ lim) :
    Calls Try.prog 33 #[.pointer (some ⟨g, 0, none⟩), .int .i64 n] w (WrYes w base g v (xs ++ List.replicate n 0) lim) := by
  have hlim := h.lim_le
  go_enter Try.func33, Try.ntmps33
  go_wp2_with fail
  refine (room_yes h (n := n) (by omega) (by omega)).mono ?_
  rintro e w1 ⟨rfl, hW, hF⟩
  have hsz := hF.size
  obtain ⟨v', w2, hr, ho, hg, hat⟩ := zapp_run (P := Try.prog) (z := .int .u8 0) Try.underlying22 info8 rfl rfl Try.underlying3 w1 base 22 v xs.length (B8 xs) hW.own n (by unfold maxLen; omega) (by omega) (by omega)
  have hz : List.replicate n (Value.int .u8 0) = B8 (List.replicate n 0) := by simp [B8]
  have hl : xs.length + n = (xs ++ List.replicate n (0 : UInt8)).length := by simp
  rw [hz, ← B8_append, hl] at ho
  obtain ⟨hW2, hF2, hc1, hf1⟩ := hW.swap hg ho hat (by simp; omega)
  have hc1' := hW.c1
  have hF3 : Fr (g :: v.ownBlock.toList) w (w2.setCell ⟨g, 1, none⟩ v') := (Fr.mono hF (by simp)).trans hF2
  have hat2 : v'.ownBlock = v.ownBlock ∨ ∀ k, v'.ownBlock = some k → w.heap.size ≤ k := by
    rcases hat with hat | hat
    · exact .inl hat
    · right; intro k hk; rw [hat] at hk; injection hk with hk; omega
  obtain ⟨A2, c2, hv, -⟩ := own_slice hW2.own
  generalize (xs ++ List.replicate n 0).length = L at hv
  subst hv
  have HW := Lib.hid hW2
  have HA := Lib.hid hat2
  clear hW2 hat2 hat ho hg hW hF2 hF hz hl
  go_wp2_with (at_builtin; refine wpList_app rfl _ _ _ rfl hr rfl rfl ?_)
  go_end0
  exact ⟨_, rfl, HW.out, hF3, HA.out⟩

set_option maxRecDepth 20000 in
set_option maxHeartbeats 400000 in
theorem wZeros_no (h : WrAt w base g v xs lim f) {n : Int} (hn : f = true ∨ n < 0 ∨ lim < xs.length + n) :
    Calls Try.prog 33 #[.pointer (some ⟨g, 0, none⟩), .int .i64 n] w (WrNo w base g v xs lim) := by
  go_enter Try.func33, Try.ntmps33
  go_wp2_with fail
  refine (room_no h hn).mono ?_
  rintro e w1 ⟨rfl, hW, hF⟩
  go_wp2_with fail
  go_end0
  exact ⟨rfl, hW, hF⟩

set_option maxRecDepth 20000 in
set_option maxHeartbeats 400000 in
theorem wLen (h : WrAt w base g v xs lim f) :
    Calls Try.prog 23 #[.pointer (some ⟨g, 0, none⟩)] w fun e w' => e = .returned (.int .i64 xs.length) ∧ w = w' := by
  obtain ⟨A, c, rfl, hc, hc2, _⟩ := own_slice h.own
  have h0 := h.c0
  have h1 := h.c1
  clear h
  go_enter Try.func23, Try.ntmps23
  go_wp2_with (go_at_call 55; refine (madeW _ _ h0).mono ?_; rintro e w' ⟨rfl, rfl⟩)
  go_ret
  exact ⟨rfl, rfl⟩

set_option maxRecDepth 20000 in
set_option maxHeartbeats 400000 in
theorem wFailed (h : WrAt w base g v xs lim f) :
    Calls Try.prog 22 #[.pointer (some ⟨g, 0, none⟩)] w fun e w' => e = .returned (.bool f) ∧ w = w' := by
  have h0 := h.c0
  have h3 := h.c3
  clear h
  go_enter Try.func22, Try.ntmps22
  go_wp2_with (go_at_call 55; refine (madeW _ _ h0).mono ?_; rintro e w' ⟨rfl, rfl⟩)
  go_ret
  exact ⟨rfl, rfl⟩

def DoneYes (w : World) (xs : List UInt8) (e : Ending) (w' : World) : Prop :=
  ∃ u, e = .returned (.tuple #[u, .int .i64 0]) ∧ w'.ownsRow w.heap.size 5 1 u xs.length (B8 xs) ∧ Fr [] w w'

set_option maxRecDepth 20000 in
set_option maxHeartbeats 400000 in
theorem wDone_yes (h : WrAt w base g v xs lim false) :
    Calls Try.prog 21 #[.pointer (some ⟨g, 0, none⟩)] w (DoneYes w xs) := by
  obtain ⟨A, c, rfl, hc, hc2, _⟩ := own_slice h.own
  have h0 := h.c0
  have h1 := h.c1
  have h3 := h.c3
  have hle := h.le
  have hlim := h.lim_le
  have hrd := Rd.own h.own
  go_enter Try.func21, Try.ntmps21
  go_wp2_with (go_at_call 55; refine (madeW _ _ h0).mono ?_; rintro e w' ⟨rfl, rfl⟩)
  refine (clone A xs.length c xs w rfl hrd (by omega)).mono ?_
  rintro e w2 ⟨u, rfl, ho, hF⟩
  have HO := Lib.hid ho
  clear ho
  go_wp2_with fail
  go_ret2
  exact ⟨_, rfl, HO.out, hF⟩

set_option maxRecDepth 20000 in
set_option maxHeartbeats 400000 in
theorem wDone_no (h : WrAt w base g v xs lim true) :
    Calls Try.prog 21 #[.pointer (some ⟨g, 0, none⟩)] w fun e w' => e = .returned (.tuple #[.slice none 0 0, .int .i64 4]) ∧ w = w' := by
  have h0 := h.c0
  have h3 := h.c3
  clear h
  go_enter Try.func21, Try.ntmps21
  go_wp2_with (go_at_call 55; refine (madeW _ _ h0).mono ?_; rintro e w' ⟨rfl, rfl⟩)
  go_ret2
  exact ⟨rfl, rfl⟩
end

def NewWr (w : World) (lim : Nat) (e : Ending) (w' : World) : Prop :=
  ∃ g, e = .returned (.tuple #[.pointer (some ⟨g, 0, none⟩), .int .i64 0]) ∧ WrAt w' w.heap.size g (.slice none 0 0) [] lim false ∧ Fr [] w w'

set_option maxRecDepth 20000 in
set_option maxHeartbeats 400000 in
theorem newW_yes (lim : Nat) (w : World) (hl : lim ≤ 131072) :
    Calls Try.prog 16 #[.int .i64 lim] w (NewWr w lim) := by
  have hd : decide ((lim : Int) < 0) = false := by simp
  have hd2 : decide ((131072 : Int) < lim) = false := by simp; omega
  go_enter Try.func16, Try.ntmps16
  go_wp2
  go_ret2
  refine ⟨w.heap.size, rfl, ⟨?_, World.ownsRow_nil _ _ _ _, by simp [Value.ownBlock], Nat.le_refl _, by simp, hl⟩, (Fr.refl _ w).alloc _⟩
  exact heap_alloc_new w _

set_option maxRecDepth 20000 in
set_option maxHeartbeats 400000 in
theorem newW_no (lim : Int) (w : World) (hl : lim < 0 ∨ 131072 < lim) :
    Calls Try.prog 16 #[.int .i64 lim] w fun e w' => e = .returned (.tuple #[.pointer none, .int .i64 2]) ∧ w = w' := by
  by_cases h0 : lim < 0
  · have hd : decide (lim < 0) = true := by simpa using h0
    clear hl
    go_enter Try.func16, Try.ntmps16
    go_wp2
    go_ret2
    exact ⟨rfl, rfl⟩
  · have h1 : 131072 < lim := by omega
    have hd : decide (lim < 0) = false := by simpa using h0
    have hd2 : decide (131072 < lim) = true := by simpa using h1
    clear hl
    go_enter Try.func16, Try.ntmps16
    go_wp2
    go_ret2
    exact ⟨rfl, rfl⟩

def NewRd (w : World) (bs : List UInt8) (e : Ending) (w' : World) : Prop :=
  ∃ g v, e = .returned (.tuple #[.pointer (some ⟨g, 0, none⟩), .int .i64 0]) ∧ RdAt w' w.heap.size g v bs 0 false ∧ Fr [] w w'

set_option maxRecDepth 20000 in
set_option maxHeartbeats 400000 in
theorem newR_yes (A : Option Addr) (n c : Nat) (bs : List UInt8) (w : World) (hl : bs.length = n) (hrd : Rd w A (B8 bs)) (hn : n ≤ 131072) :
    Calls Try.prog 24 #[.slice A n c] w (NewRd w bs) := by
  go_enter Try.func24, Try.ntmps24
  go_wp2_with fail
  refine (clone A n c bs _ hl hrd (by omega)).mono ?_
  rintro e w1 ⟨v, rfl, ho, hF⟩
  obtain ⟨A2, c2, rfl, -⟩ := own_slice ho
  have HO := Lib.hid ho
  clear ho
  have hsz := hF.size
  go_wp2_with fail
  go_ret2
  subst hl
  have hlt := HO.out.lt
  refine ⟨w1.heap.size, _, rfl, ⟨heap_alloc_new w1 _, HO.out.alloc _, ?_, hsz, Nat.zero_le _, hn⟩, hF.alloc _⟩
  intro e
  have := hlt _ e
  omega

set_option maxRecDepth 20000 in
set_option maxHeartbeats 400000 in
theorem newR_no (A : Option Addr) (n c : Nat) (w : World) (hn : 131072 < n) :
    Calls Try.prog 24 #[.slice A n c] w fun e w' => e = .returned (.tuple #[.pointer none, .int .i64 3]) ∧ w = w' := by
  go_enter Try.func24, Try.ntmps24
  go_wp2
  go_ret2
  exact ⟨rfl, rfl⟩

end Go.Proofs.Ytbgikpbhjeanoaa
