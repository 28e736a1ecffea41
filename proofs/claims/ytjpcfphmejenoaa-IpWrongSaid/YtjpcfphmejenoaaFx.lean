/- Fix, Pseudo, Update, Update32. -/
import Derived.Test.YtjpcfphmejenoaaSm
namespace Go.Proofs.Ytjpcfphmejenoaa
open Go.RowKit

theorem i64_2 {n : Nat} (h : n ≤ 140737488351232) : IntKind.i64.wrap ((n : Int) - 2) = (n : Int) - 2 := IntWalk.i64_in _ (by omega)

def FixNo (w : World) (e : Ending) (w' : World) : Prop := e = .returned (.tuple #[.slice none 0 0, .int .i64 2]) ∧ w = w'
set_option maxRecDepth 20000 in
theorem fix_no (A : Option Addr) (n c : Nat) (at_ : Int) (w : World) (hreach : n ≤ 140737488351232) (hb : at_ < 0 ∨ at_ % 2 ≠ 0 ∨ (n : Int) - 2 < at_) :
    Calls Try.prog 22 #[.slice A n c, .int .i64 at_] w (FixNo w) := by
  have hw2 := i64_2 hreach
  by_cases h1 : at_ < 0
  · have hd : decide (at_ < 0) = true := by simpa using h1
    go_enter Try.func22, Try.ntmps22
    go_wp2
    go_ret2
    exact ⟨rfl, rfl⟩
  · have hd : decide (at_ < 0) = false := by simpa using h1
    have h0 : 0 ≤ at_ := by omega
    by_cases h2 : at_ % 2 = 0
    · have hd4 : (at_ % 2 != 0) = false := by rw [h2]; rfl
      have h3 : (n : Int) - 2 < at_ := by rcases hb with h | h | h; exact absurd h h1; exact absurd h2 h; exact h
      have hd3 : decide ((n : Int) - 2 < at_) = true := by simpa using h3
      clear h2 h3 hb h1
      go_enter Try.func22, Try.ntmps22
      go_wp2
      go_ret2
      exact ⟨rfl, rfl⟩
    · have hd4 : (at_ % 2 != 0) = true := by simpa using h2
      clear hb h1 h2
      go_enter Try.func22, Try.ntmps22
      go_wp2
      go_ret2
      exact ⟨rfl, rfl⟩

/-- What Fix makes of bytes. -/
def fixC (xs : List UInt8) (k : Nat) : Nat := 65535 - fold (wsum (put2 xs k 0))
def fixed (xs : List UInt8) (k : Nat) : List UInt8 := put2 xs k (fixC xs k)
theorem put2_put2 (xs : List UInt8) (k u v : Nat) (h : k + 2 ≤ xs.length) : put2 (put2 xs k u) k v = put2 xs k v := by
  unfold put2
  have hl : (xs.take k).length = k := by simp; omega
  have h1 : (xs.take k ++ [hi8 u, lo8 u] ++ xs.drop (k + 2)).take k = xs.take k := by
    rw [List.append_assoc, List.take_append_of_le_length (by omega), List.take_take, Nat.min_self]
  have h2 : (xs.take k ++ [hi8 u, lo8 u] ++ xs.drop (k + 2)).drop (k + 2) = xs.drop (k + 2) := by
    have e : k + 2 = (xs.take k ++ [hi8 u, lo8 u]).length := by simp; omega
    rw [e, List.drop_left, ← e]
  rw [h1, h2]
theorem fixC_lt (xs : List UInt8) (k : Nat) : fixC xs k < 65536 := by unfold fixC; omega

def FixYes (w : World) (xs : List UInt8) (k n : Nat) (e : Ending) (w' : World) : Prop :=
  ∃ g c, e = .returned (.tuple #[.slice (some ⟨g, 0, none⟩) n c, .int .i64 0]) ∧ w'.ownsRow w.heap.size 5 1 (.slice (some ⟨g, 0, none⟩) n c) n (B8 (fixed xs k)) ∧ Fr [] w w'

set_option maxRecDepth 20000 in
set_option maxHeartbeats 400000 in
theorem fix_yes (A : Option Addr) (n c : Nat) (xs : List UInt8) (k : Nat) (w : World) (hl : xs.length = n) (hrd : Rd w A (B8 xs)) (hreach : n ≤ 140737488351232) (hk : k % 2 = 0) (hkn : k + 2 ≤ n) :
    Calls Try.prog 22 #[.slice A n c, .int .i64 k] w (FixYes w xs k n) := by
  have hw2 := i64_2 hreach
  have hd : decide ((k : Int) < 0) = false := by simp
  have hm : (k : Int) % 2 = 0 := by omega
  have hd3 : decide ((n : Int) - 2 < (k : Int)) = false := by simp; omega
  have Hl := Lib.hid hl
  have HK := Lib.hid hk
  clear hl hk
  go_enter Try.func22, Try.ntmps22
  go_wp2_with fail
  refine (clone A n c xs w Hl.out hrd hreach).mono ?_
  rintro e w1 ⟨v, rfl, ho, hF⟩
  obtain ⟨g, cc, rfl, hg, hnc, hcm⟩ := own_some ho (by omega)
  clear hrd hnc hcm
  go_wp2_with fail
  refine (put_any ho (v := 0) hkn hreach (by decide)).mono ?_
  rintro e w2 ⟨⟨r, rfl⟩, ho2, hF2⟩
  replace hF := hF.trans2 hF2 (by intro t ht; rw [List.mem_singleton] at ht; subst ht; exact .inr hg)
  have hL2 : Hid ((put2 xs k 0).length = n) := by show _ = _; rw [put2_length (by rw [Hl.out]; exact hkn)]; exact Hl.out
  clear ho hF2
  go_wp2_with fail
  refine (of_any (some ⟨g, 0, none⟩) n cc (put2 xs k 0) w2 hL2.out (Rd.own ho2) hreach).mono ?_
  rintro e w3 ⟨rfl, hF3⟩
  replace hF := hF.trans hF3
  replace ho2 := hF3.own ho2 (by simp)
  clear hF3
  go_wp2_with fail
  refine (put_any ho2 (v := fixC xs k) hkn hreach (fixC_lt xs k)).mono ?_
  rintro e w4 ⟨⟨r, rfl⟩, ho4, hF4⟩
  replace hF := hF.trans2 hF4 (by intro t ht; rw [List.mem_singleton] at ht; subst ht; exact .inr hg)
  rw [put2_put2 _ _ _ _ (by rw [Hl.out]; exact hkn)] at ho4
  clear ho2 hF4
  go_wp2_with fail
  go_ret2
  exact ⟨g, cc, rfl, ho4, hF⟩

def psd (src dst proto length : Nat) : Nat := fold (src / 65536 + src % 65536 + dst / 65536 + dst % 65536 + proto + length)
/-- What Update makes. -/
def upd (check old new : Nat) : Nat := 65535 - fold (65535 - check + (65535 - old) + new)
theorem upd_lt (check old new : Nat) : upd check old new < 65536 := by unfold upd; omega
theorem W16_3 {a b c : Nat} {A B : Int} (hA : A = a) (hB : B = b) : #[Value.int .u16 A, .int .u16 B, .int .u16 c] = (W16 [a, b, c]).toArray := by subst hA hB; rfl

theorem repl_any (check : Nat) (w : World) :
    Calls Try.prog 32 #[.int .u16 check] w fun e w' => e = .returned (.func (.func 51) #[] #[.pointer (some ⟨w.heap.size, 0, none⟩)]) ∧ w' = w.alloc (.cells #[.int .u16 check] 27) := by
  go_enter Try.func32, Try.ntmps32
  go_wp2
  go_ret
  exact ⟨rfl, rfl⟩

/-- Block g is the box of the checksum. -/
def Bx (w : World) (g check : Nat) : Prop := w.heap[g]? = some (.cells #[.int .u16 check] 27 (0, 0))
theorem Bx.cell {w : World} {g check : Nat} (h : Bx w g check) : w.cell? ⟨g, 0, none⟩ = some (.int .u16 check) := by unfold Bx at h; simp [World.cell?, h]
theorem Bx.fz {w : World} {g check : Nat} (h : Bx w g check) : w.frozen? ⟨g, 0, none⟩ = false := by unfold Bx at h; simp [World.frozen?, h]
theorem Bx.set {w : World} {g check : Nat} (h : Bx w g check) (r : Nat) : Bx (w.setCell ⟨g, 0, none⟩ (.int .u16 r)) g r := by unfold Bx at h ⊢; simp [World.setCell, Array.getElem?_modify, h]
theorem Bx.fr {w w' : World} {S : List Nat} {g check : Nat} (h : Bx w g check) (hf : Fr S w w') (hg : g ∉ S) : Bx w' g check := hf.blk h hg

set_option maxRecDepth 20000 in
set_option maxHeartbeats 400000 in
theorem repl1_any {w : World} {g check : Nat} (old new : Nat) (hB : Bx w g check) (h1 : check < 65536) (h2 : old < 65536) (h3 : new < 65536) :
    Calls Try.prog 51 #[.int .u16 old, .int .u16 new, .pointer (some ⟨g, 0, none⟩)] w fun e w' => e = .returned (.int .u16 (upd check old new)) ∧ Bx w' g (upd check old new) ∧ Fr [g] w w' := by
  have hgl : g < w.heap.size := lt_of_block hB
  have hc := hB.cell
  have hz := hB.fz
  have hB2 : Bx ((w.setCell ⟨g, 0, none⟩ (.int .u16 (upd check old new))).alloc (.cells #[.int .u16 (65535 - (check : Int)), .int .u16 (65535 - (old : Int)), .int .u16 new] 27)) g (upd check old new) := (hB.set (upd check old new)).fr ((Fr.refl [] _).alloc _) (by simp)
  have hF2 : Fr [g] w ((w.setCell ⟨g, 0, none⟩ (.int .u16 (upd check old new))).alloc (.cells #[.int .u16 (65535 - (check : Int)), .int .u16 (65535 - (old : Int)), .int .u16 new] 27)) := ((Fr.refl [g] w).setCell (.inl (by simp)) _).alloc _
  have hf := fold_le (65535 - check + (65535 - old) + new)
  have hE : fold [65535 - check, 65535 - old, new].sum = fold (65535 - check + (65535 - old) + new) := by
    congr 1
    simp only [List.sum_cons, List.sum_nil]
    omega
  have hJ := join_any (some ⟨w.heap.size, 0, none⟩) 3 3 [65535 - check, 65535 - old, new] _ rfl (by intro x hx; simp at hx; omega) (rd_lit w (W16 [65535 - check, 65535 - old, new]) 27) (by omega)
  rw [hE, ← W16_3 (A := 65535 - (check : Int)) (B := 65535 - (old : Int)) (by omega) (by omega)] at hJ
  have hu : ((upd check old new : Nat) : Int) = 65535 - ((fold (65535 - check + (65535 - old) + new) : Nat) : Int) := by unfold upd; omega
  generalize fold (65535 - check + (65535 - old) + new) = r at hf hJ hu
  generalize upd check old new = u at hB2 hF2 hu ⊢
  have hw1 : IntKind.u16.wrap (65535 - (check : Int)) = 65535 - (check : Int) := u16_in (by omega) (by omega)
  have hw2 : IntKind.u16.wrap (65535 - (old : Int)) = 65535 - (old : Int) := u16_in (by omega) (by omega)
  have hw3 : IntKind.u16.wrap (65535 - (r : Int)) = (u : Int) := by rw [u16_in (by omega) (by omega)]; exact hu.symm
  have HB := Lib.hid hB2
  have hgl' : g ≠ w.heap.size := by omega
  clear hE hu hB2 hB
  go_enter Try.func51, Try.ntmps51
  go_wp2_with fail
  refine hJ.mono ?_
  rintro e w2 ⟨rfl, rfl⟩
  clear hJ
  go_wp2_with fail
  go_ret
  exact ⟨rfl, HB.out, hF2⟩

set_option maxRecDepth 20000 in
set_option maxHeartbeats 400000 in
theorem update_any (check old new : Nat) (w : World) (h1 : check < 65536) (h2 : old < 65536) (h3 : new < 65536) :
    Calls Try.prog 18 #[.int .u16 check, .int .u16 old, .int .u16 new] w fun e w' => e = .returned (.int .u16 (upd check old new)) ∧ Fr [] w w' := by
  have hB : Bx (w.alloc (.cells #[.int .u16 check] 27)) w.heap.size check := heap_alloc_new w _
  have hF : Fr [] w (w.alloc (.cells #[.int .u16 check] 27)) := (Fr.refl _ w).alloc _
  go_enter Try.func18, Try.ntmps18
  go_wp2_with fail
  refine (repl_any check w).mono ?_
  rintro e w1 ⟨rfl, rfl⟩
  go_wp2_with fail
  refine (repl1_any old new hB h1 h2 h3).mono ?_
  rintro e w2 ⟨rfl, -, hF2⟩
  replace hF := hF.trans2 hF2 (by intro t ht; rw [List.mem_singleton] at ht; subst ht; exact .inr (Nat.le_refl _))
  go_wp2_with fail
  go_ret
  exact ⟨rfl, hF⟩

end Go.Proofs.Ytjpcfphmejenoaa
