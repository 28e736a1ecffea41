/- Of, Right, Over, Fix, Pseudo, Update, Update32. -/
import Derived.Test.YtjpcfphmejenoaaWords
import Derived.Test.YtjpcfphmejenoaaEq
namespace Go.Proofs.Ytjpcfphmejenoaa
open Go.RowKit

theorem rd_lit (w : World) (l : List Value) (t : TypeId) : Rd (w.alloc (.cells l.toArray t)) (some ⟨w.heap.size, 0, none⟩) l := fun j u hu => by
  refine ⟨_, rfl, ?_⟩
  rw [add_lit, Nat.zero_add, World.cell?_alloc_at _ _ _ _ rfl]
  simpa using hu
theorem rd_new (w : World) (l : List UInt8) (t : TypeId) : Rd (w.alloc (.cells (B8 l).toArray t)) (some ⟨w.heap.size, 0, none⟩) (B8 l) := rd_lit w (B8 l) t

/-- The two bytes of a word. -/
def hi8 (v : Nat) : UInt8 := UInt8.ofNat (v / 256)
def lo8 (v : Nat) : UInt8 := UInt8.ofNat (v % 256)
theorem hi8_val {v : Nat} (h : v < 65536) : (hi8 v).toNat = v / 256 := by simp [hi8]; omega
theorem lo8_val (v : Nat) : (lo8 v).toNat = v % 256 := by simp [lo8]
/-- Bytes with a word put in. -/
def put2 (xs : List UInt8) (k v : Nat) : List UInt8 := xs.take k ++ [hi8 v, lo8 v] ++ xs.drop (k + 2)
theorem put2_length {xs : List UInt8} {k v : Nat} (h : k + 2 ≤ xs.length) : (put2 xs k v).length = xs.length := by simp [put2]; omega
theorem set_set {α : Type} (xs : List α) (k : Nat) (a b : α) (h : k + 2 ≤ xs.length) : (xs.set k a).set (k + 1) b = xs.take k ++ [a, b] ++ xs.drop (k + 2) := by
  apply List.ext_getElem?
  intro i
  have hl : (xs.take k).length = k := by simp; omega
  rcases Nat.lt_trichotomy i k with hi | hi | hi
  · rw [List.getElem?_set_ne (by omega), List.getElem?_set_ne (by omega), List.append_assoc, List.getElem?_append_left (by omega), List.getElem?_take, if_pos hi]
  · subst hi
    rw [List.getElem?_set_ne (by omega), List.append_assoc, List.getElem?_append_right (by omega), hl, Nat.sub_self]
    simp [show i < xs.length by omega]
  · by_cases h1 : i = k + 1
    · subst h1
      rw [List.append_assoc, List.getElem?_append_right (by omega), hl, show k + 1 - k = 1 by omega]
      simp [show k + 1 < xs.length by omega]
    · rw [List.getElem?_set_ne (by omega), List.getElem?_set_ne (by omega), List.getElem?_append_right (by simp; omega), List.getElem?_drop]
      congr 1
      simp
      omega
theorem B8_set (xs : List UInt8) (k : Nat) (a : UInt8) {z : Int} (hz : z = a.toNat) : (B8 xs).set k (.int .u8 z) = B8 (xs.set k a) := by subst hz; simp [B8]

theorem own_set {w : World} {base : Nat} {e : TypeId} {g n c : Nat} {xs : List Value} (h : w.ownsRow base e 1 (.slice (some ⟨g, 0, none⟩) n c) n xs) (k : Nat) (u : Value) :
    (w.setCell ⟨g, k, none⟩ u).ownsRow base e 1 (.slice (some ⟨g, 0, none⟩) n c) n (xs.set k u) := by
  refine ⟨by rw [List.length_set]; exact h.1, ?_⟩
  rcases h.2 with ⟨h, _⟩ | ⟨g', cap, cur, h, hb, hg, hnc, hcm, hcs, htake⟩
  · simp at h
  · simp only [Value.slice.injEq, Option.some.injEq, Addr.mk.injEq, and_true, true_and] at h
    obtain ⟨rfl, rfl⟩ := h
    refine .inr ⟨g, c, cur.setIfInBounds k u, rfl, hb, ?_, hnc, hcm, by simpa using hcs, ?_⟩
    · simp [World.setCell, Array.getElem?_modify, hg]
    · rw [Array.toList_setIfInBounds, ← htake, List.take_set]
theorem own_fz {w : World} {base : Nat} {e : TypeId} {g n c : Nat} {xs : List Value} (h : w.ownsRow base e 1 (.slice (some ⟨g, 0, none⟩) n c) n xs) (i : Nat) : w.frozen? ⟨g, i, none⟩ = false := by
  rcases h.2 with ⟨h, _⟩ | ⟨g', cap, cur, h, hb, hg, hnc, hcm, hcs, htake⟩
  · simp at h
  · simp only [Value.slice.injEq, Option.some.injEq, Addr.mk.injEq, and_true, true_and] at h
    obtain ⟨rfl, rfl⟩ := h
    simp [World.frozen?, hg]
theorem own_cell {w : World} {base : Nat} {e : TypeId} {g n c : Nat} {xs : List Value} (h : w.ownsRow base e 1 (.slice (some ⟨g, 0, none⟩) n c) n xs) {j : Nat} {u : Value} (hj : xs[j]? = some u) : w.cell? ⟨g, j, none⟩ = some u := by
  have := h.cells (g := g) rfl j u hj
  rwa [add_lit, Nat.zero_add] at this
theorem own_some {w : World} {base : Nat} {e : TypeId} {v : Value} {n : Nat} {xs : List Value} (h : w.ownsRow base e 1 v n xs) (hn : 0 < n) : ∃ g c, v = .slice (some ⟨g, 0, none⟩) n c ∧ base ≤ g ∧ n ≤ c ∧ c ≤ maxLen := by
  rcases h.2 with ⟨_, h⟩ | ⟨g, cap, cur, h, hb, _, hnc, hcm, _⟩
  · omega
  · exact ⟨g, cap, h, hb, hnc, hcm⟩

section
variable {w : World} {A : Option Addr} {n c : Nat} {xs : List UInt8}

set_option maxRecDepth 20000 in
set_option maxHeartbeats 400000 in
theorem of_any (A : Option Addr) (n c : Nat) (xs : List UInt8) (w : World) (hl : xs.length = n) (hrd : Rd w A (B8 xs)) (hreach : n ≤ 140737488351232) :
    Calls Try.prog 37 #[.slice A n c] w fun e w' => e = .returned (.int .u16 (65535 - fold (wsum xs) : Nat)) ∧ Fr [] w w' := by
  have hf := fold_le (wsum xs)
  have hS := sum_any A n c xs w hl hrd hreach
  generalize fold (wsum xs) = s at hf hS ⊢
  have hw1 : IntKind.u16.wrap (65535 - (s : Int)) = 65535 - (s : Int) := u16_in (by omega) (by omega)
  clear hl hrd
  go_enter Try.func37, Try.ntmps37
  go_wp2_with fail
  refine hS.mono ?_
  rintro e w1 ⟨rfl, hF⟩
  go_wp2_with fail
  go_ret
  exact ⟨ret_int (by omega), hF⟩

set_option maxRecDepth 20000 in
set_option maxHeartbeats 400000 in
theorem right_any (A : Option Addr) (n c : Nat) (xs : List UInt8) (w : World) (hl : xs.length = n) (hrd : Rd w A (B8 xs)) (hreach : n ≤ 140737488351232) :
    Calls Try.prog 13 #[.slice A n c] w fun e w' => e = .returned (.bool (decide (fold (wsum xs) = 65535))) ∧ Fr [] w w' := by
  have hS := sum_any A n c xs w hl hrd hreach
  generalize fold (wsum xs) = s at hS ⊢
  have hd : ((s : Int) == 65535) = decide (s = 65535) := by
    by_cases h : s = 65535
    · subst h; rfl
    · rw [decide_eq_false h, beq_eq_false_iff_ne]; omega
  have HD := Lib.hid hd
  clear hl hrd hd
  go_enter Try.func13, Try.ntmps13
  go_wp2_with fail
  refine hS.mono ?_
  rintro e w1 ⟨rfl, hF⟩
  go_wp2_with fail
  go_ret
  exact ⟨by rw [← HD.out]; rfl, hF⟩

set_option maxRecDepth 20000 in
set_option maxHeartbeats 400000 in
theorem put_any {base g n c : Nat} {xs : List UInt8} {w : World} (h : w.ownsRow base 5 1 (.slice (some ⟨g, 0, none⟩) n c) n (B8 xs)) {k v : Nat} (hk : k + 2 ≤ n) (hn : n ≤ 140737488351232) (hv : v < 65536) :
    Calls Try.prog 36 #[.slice (some ⟨g, 0, none⟩) n c, .int .i64 k, .int .u16 v] w fun e w' => (∃ r, e = .returned r) ∧ w'.ownsRow base 5 1 (.slice (some ⟨g, 0, none⟩) n c) n (B8 (put2 xs k v)) ∧ Fr [g] w w' := by
  have hxl : xs.length = n := by have := h.1; rw [B8_length] at this; omega
  have hfz := own_fz h
  obtain ⟨x, hx0⟩ : ∃ x, xs[k]? = some x := ⟨_, List.getElem?_eq_getElem (by omega)⟩
  obtain ⟨y, hy0⟩ : ∃ y, xs[k + 1]? = some y := ⟨_, List.getElem?_eq_getElem (by omega)⟩
  have hc1 := own_cell h (j := k) (u := .int .u8 x.toNat) (by rw [B8_get, hx0]; rfl)
  have hc2 := own_cell h (j := k + 1) (u := .int .u8 y.toNat) (by rw [B8_get, hy0]; rfl)
  have hO := own_set (own_set h k (.int .u8 ((v : Int) / 256))) (k + 1) (.int .u8 ((v : Int) % 256))
  rw [B8_set xs k (hi8 v) (by rw [hi8_val hv]; omega), B8_set _ (k + 1) (lo8 v) (by rw [lo8_val]; omega), set_set _ _ _ _ (by omega)] at hO
  have hF : Fr [g] w ((w.setCell ⟨g, k, none⟩ (.int .u8 ((v : Int) / 256))).setCell ⟨g, k + 1, none⟩ (.int .u8 ((v : Int) % 256))) := ((Fr.refl _ w).setCell (.inl (by simp)) _).setCell (.inl (by simp)) _
  have HO := Lib.hid hO
  have hf1 := hfz k
  have hf2 := hfz (k + 1)
  have hw1 : IntKind.u8.wrap ((v : Int) / 256) = (v : Int) / 256 := u8_in (by omega) (by omega)
  have hw2 : IntKind.u8.wrap (v : Int) = (v : Int) % 256 := u8_mod
  have hw3 : IntKind.i64.wrap ((k : Int) + 1) = (k : Int) + 1 := IntWalk.i64_in _ (by omega)
  have hi0 : (0 : Int) ≤ (k : Int) ∧ (k : Int) < (n : Int) := by omega
  have hi2 : (0 : Int) ≤ (k : Int) + 1 ∧ (k : Int) + 1 < (n : Int) := by omega
  have hi3 : ((k : Int) + 1).toNat = k + 1 := by omega
  clear hO hfz h hx0 hy0
  go_enter Try.func36, Try.ntmps36
  go_wp2
  go_end0
  exact ⟨⟨_, rfl⟩, HO.out, hF⟩
end
end Go.Proofs.Ytjpcfphmejenoaa
