/- Addresses recorded one after the other, in mathematics; words compared. -/
import Derived.Test.YtekhjpiopbkoaaaOrw
import Derived.Test.YtekhjpiopbkoaaaOrg
import Derived.Test.YtekhjpiopbkoaaaOmm
namespace Go.Proofs.Ytekhjpiopbkoaaa
open Go.RowKit
set_option linter.unusedVariables false
set_option maxRecDepth 100000

/-- The address number j of some Data. -/
def aN (xs : List UInt8) (j : Nat) : Nat := num4 (xs.drop 1) j
/-- Numbers as cells. -/
def CW (f : Nat → Nat) (q : Nat) : List Value := (List.range q).map fun j => .int .u32 (f j : Nat)
theorem CW_congr {f g : Nat → Nat} {q : Nat} (h : ∀ j, j < q → f j = g j) : CW f q = CW g q := by
  unfold CW
  refine List.map_congr_left fun j hj => ?_
  rw [h j (by simpa using hj)]
theorem CW_length (f : Nat → Nat) (q : Nat) : (CW f q).length = q := by simp [CW]
theorem CW_get {f : Nat → Nat} {q j : Nat} (h : j < q) : (CW f q)[j]? = some (.int .u32 (f j : Nat)) := by
  simp [CW, h]
theorem CW_take {f : Nat → Nat} {q k : Nat} (h : k ≤ q) : (CW f q).take k = CW f k := by
  unfold CW
  rw [← List.map_take, List.take_range, Nat.min_eq_left h]
theorem CW_drop {f : Nat → Nat} {q k : Nat} : (CW f q).drop k = CW (fun t => f (k + t)) (q - k) := by
  apply List.ext_getElem?
  intro j
  rw [List.getElem?_drop]
  rcases Nat.lt_or_ge j (q - k) with h | h
  · rw [CW_get (by omega), CW_get h]
  · rw [List.getElem?_eq_none (by rw [CW_length]; omega), List.getElem?_eq_none (by rw [CW_length]; omega)]
theorem getD_drop (xs : List UInt8) (k j : Nat) : (xs.drop k).getD j 0 = xs.getD (k + j) 0 := by
  rw [List.getD_eq_getElem?_getD, List.getD_eq_getElem?_getD, List.getElem?_drop]
theorem getD_take (xs : List UInt8) (k j : Nat) (h : j < k) : (xs.take k).getD j 0 = xs.getD j 0 := by
  rw [List.getD_eq_getElem?_getD, List.getD_eq_getElem?_getD, List.getElem?_take, if_pos h]
theorem aN_eq (xs : List UInt8) (j : Nat) : aN xs j = (xs.getD (1 + j * 4) 0).toNat * 16777216 + (xs.getD (2 + j * 4) 0).toNat * 65536 + (xs.getD (3 + j * 4) 0).toNat * 256 + (xs.getD (4 + j * 4) 0).toNat := by
  unfold aN num4
  rw [getD_drop, getD_drop, getD_drop, getD_drop, show 1 + (j * 4 + 1) = 2 + j * 4 by omega, show 1 + (j * 4 + 2) = 3 + j * 4 by omega, show 1 + (j * 4 + 3) = 4 + j * 4 by omega]
theorem aN_lt (xs : List UInt8) (j : Nat) : aN xs j < 4294967296 := by
  rw [aN_eq]
  have := (xs.getD (1 + j * 4) 0).toNat_lt; have := (xs.getD (2 + j * 4) 0).toNat_lt; have := (xs.getD (3 + j * 4) 0).toNat_lt; have := (xs.getD (4 + j * 4) 0).toNat_lt
  omega
theorem C32_done (xs : List UInt8) (p : Nat) : C32 ((xs.drop 1).take (4 * p)) p = CW (aN xs) p := by
  unfold C32 CW
  refine List.map_congr_left fun j hj => ?_
  have hj : j < p := by simpa using hj
  unfold aN num4
  rw [getD_take _ _ _ (by omega), getD_take _ _ _ (by omega), getD_take _ _ _ (by omega), getD_take _ _ _ (by omega)]
theorem C32_left (xs : List UInt8) (p q : Nat) : C32 (xs.drop (1 + 4 * p)) q = CW (fun j => aN xs (p + j)) q := by
  unfold C32 CW
  refine List.map_congr_left fun j hj => ?_
  show _ = Value.int .u32 ((aN xs (p + j) : Nat) : Int)
  rw [aN_eq]
  unfold num4
  rw [getD_drop, getD_drop, getD_drop, getD_drop, show 1 + 4 * p + j * 4 = 1 + (p + j) * 4 by omega, show 1 + 4 * p + (j * 4 + 1) = 2 + (p + j) * 4 by omega, show 1 + 4 * p + (j * 4 + 2) = 3 + (p + j) * 4 by omega, show 1 + 4 * p + (j * 4 + 3) = 4 + (p + j) * 4 by omega]
theorem recD_get {xs : List UInt8} {p a t : Nat} (h : p + 4 ≤ xs.length) (ht : 1 ≤ t) : (recD xs p a).getD t 0 = if p ≤ t ∧ t < p + 4 then (adB a).getD (t - p) 0 else xs.getD t 0 := by
  have hl : (adB a).length = 4 := rfl
  have hs : ∀ v : UInt8, (xs.set 0 v).getD t 0 = xs.getD t 0 := fun v => by
    rw [List.getD_eq_getElem?_getD, List.getD_eq_getElem?_getD, List.getElem?_set_ne (by omega)]
  unfold recD splice
  rw [hl]
  rcases Nat.lt_or_ge t p with h1 | h1
  · rw [if_neg (by omega), List.getD_eq_getElem?_getD, List.getElem?_append_left (by simp; omega), ← List.getD_eq_getElem?_getD, getD_take _ _ _ h1, hs]
  · rw [List.getD_eq_getElem?_getD, List.getElem?_append_right (by simp; omega)]
    have e : (List.take p (xs.set 0 (UInt8.ofNat (bt xs 0 + 4)))).length = p := by simp; omega
    rw [e]
    rcases Nat.lt_or_ge t (p + 4) with h2 | h2
    · rw [if_pos ⟨h1, h2⟩, List.getElem?_append_left (by rw [hl]; omega), ← List.getD_eq_getElem?_getD]
    · rw [if_neg (by omega), List.getElem?_append_right (by rw [hl]; omega), hl, ← List.getD_eq_getElem?_getD, getD_drop, show p + 4 + (t - p - 4) = t by omega, hs]
theorem recD_ptr {xs : List UInt8} {p a : Nat} (h1 : 1 ≤ p) (h : p + 4 ≤ xs.length) (hb : bt xs 0 + 4 < 256) : bt (recD xs p a) 0 = bt xs 0 + 4 := by
  match xs, p, h1 with
  | [], _, _ => simp at h
  | x :: xs, p + 1, _ =>
    unfold recD splice
    simp only [List.set_cons_zero, List.take_succ_cons, List.cons_append]
    exact ofNat_nat hb
theorem ad_num {a : Nat} (h : a < 4294967296) : ((adB a).getD 0 0).toNat * 16777216 + ((adB a).getD 1 0).toNat * 65536 + ((adB a).getD 2 0).toNat * 256 + ((adB a).getD 3 0).toNat = a := by
  show (b256 (a / 16777216)).toNat * 16777216 + (b256 (a / 65536)).toNat * 65536 + (b256 (a / 256)).toNat * 256 + (b256 a).toNat = a
  rw [b256_val, b256_val, b256_val, b256_val]
  omega
theorem recD_aN {xs : List UInt8} {i a : Nat} (h : 1 + 4 * i + 4 ≤ xs.length) (ha : a < 4294967296) (j : Nat) : aN (recD xs (1 + 4 * i) a) j = if j = i then a else aN xs j := by
  rw [aN_eq, recD_get h (by omega), recD_get h (by omega), recD_get h (by omega), recD_get h (by omega)]
  by_cases hj : j = i
  · subst hj
    rw [if_pos rfl, if_pos (by omega), if_pos (by omega), if_pos (by omega), if_pos (by omega), show 1 + j * 4 - (1 + 4 * j) = 0 by omega, show 2 + j * 4 - (1 + 4 * j) = 1 by omega, show 3 + j * 4 - (1 + 4 * j) = 2 by omega, show 4 + j * 4 - (1 + 4 * j) = 3 by omega]
    exact ad_num ha
  · rw [if_neg hj, if_neg (by omega), if_neg (by omega), if_neg (by omega), if_neg (by omega), aN_eq]
/-- A Data with n addresses, i of them done. -/
structure RD (n i : Nat) (xs : List UInt8) : Prop where
  len : xs.length = 1 + 4 * n
  ptr : bt xs 0 = 4 * i + 4
  le : i ≤ n
  n9 : n ≤ 9
theorem RD.right {n i : Nat} {xs : List UInt8} (h : RD n i xs) {k : Nat} (hk : k = 7 ∨ k = 131 ∨ k = 137) : rtsB k xs = true := by
  have h1 := h.len; have h2 := h.ptr; have h3 := h.le; have h4 := h.n9
  unfold rtsB
  rw [if_pos hk]
  unfold rightO
  rw [decide_eq_true (by omega), Bool.true_and]
  unfold demB
  rw [if_neg (by omega), if_neg (by omega), if_pos hk]
  unfold ptB
  rw [h1, h2]
  exact decide_eq_true ⟨by omega, by omega, by omega, by omega, by omega⟩
theorem RD.step {n i a : Nat} {xs : List UInt8} (h : RD n i xs) (hi : i < n) : RD n (i + 1) (recD xs (1 + 4 * i) a) := by
  have h1 := h.len; have h2 := h.ptr; have h4 := h.n9
  exact ⟨by rw [rec_split (by omega), h1], by rw [recD_ptr (by omega) (by omega) (by omega), h2]; omega, by omega, h4⟩
/-- What Made makes of one option with addresses. -/
theorem mk_RD {x : SmO} (hK : mkK x = 7 ∨ mkK x = 131 ∨ mkK x = 137) : RD (x.m % 10) (x.u % (x.m % 10 + 1)) (mkD x) := by
  have hN : mkN (mkK x) x.m = x.m % 10 := by unfold mkN; rw [if_neg (by omega)]
  have hH : mkH (mkK x) = 1 := by unfold mkH; rcases hK with h | h | h <;> rw [h] <;> rfl
  have hS : mkS (mkK x) x.m = 4 := by unfold mkS; rcases hK with h | h | h <;> rw [h] <;> rfl
  have hu : x.u % (x.m % 10 + 1) < x.m % 10 + 1 := Nat.mod_lt _ (by omega)
  refine ⟨?_, ?_, by omega, by omega⟩
  · rw [mkD_len]; unfold mkT; rw [hN, hH, hS]; omega
  · rw [mkD_ptr (mkG_nn.2 (by omega))]; unfold mkP; rw [hN, hH, hS]; omega
theorem mkAll_one {x : SmO} (hK : mkK x = 7 ∨ mkK x = 131 ∨ mkK x = 137) : (mkAll [x]).1 = [(mkK x, mkD x)] := by
  have hr := mk_RD hK
  have h1 := hr.len; have h4 := hr.n9
  have hok : mkOk ([], 0, [0, 0, 0]) x := by
    refine ⟨?_, ?_⟩
    · unfold mkMore; rw [if_neg (by omega), h1]; simp only; omega
    · rintro ⟨_, h⟩
      have hg : mkG (mkK x) = 0 ∨ mkG (mkK x) = 1 := by unfold mkG; rcases hK with h | h | h <;> rw [h] <;> simp
      rcases hg with hg | hg <;> rw [hg] at h <;> simp at h
  unfold mkAll
  simp only [List.foldl_cons, List.foldl_nil]
  unfold mkStep
  rw [if_pos hok]
  rfl

set_option maxHeartbeats 1000000 in
theorem sameW_yes (A B : Option Addr) (n m c d : Nat) (f : Nat → Nat) (w : World) (hm : n = m) (ha : Rd w A (CW f n)) (hb : Rd w B (CW f n)) (hn : n ≤ 1000) :
    Calls Try.prog 17 #[.slice A n c, .slice B m d] w fun e w' => e = .returned (.bool true) ∧ Fr [] w w' := by
  subst hm
  go_enter Try.func17, Try.ntmps17
  go_wp2
  go_loopw [5] (fun i wr => ∃ k : Nat, k ≤ n ∧ i = .int .i64 k ∧ SameW w wr) (fun i _ => n - (intOf i).toNat)
  case atStart => exact ⟨0, Nat.zero_le _, rfl, 0, rfl⟩
  case round =>
    obtain ⟨k, hk, rfl, nq, rfl⟩ := hrel
    by_cases hlt : k < n
    · obtain ⟨b1, o1, rfl⟩ := rd_addr ha (by rw [CW_length]; omega)
      obtain ⟨b2, o2, rfl⟩ := rd_addr hb (by rw [CW_length]; omega)
      have hc1 := rdc ha k _ (CW_get hlt)
      have hc2 := rdc hb k _ (CW_get hlt)
      have hi0 : (0 : Int) ≤ (k : Int) ∧ (k : Int) < (n : Int) := by omega
      have hq : (((f k : Nat) : Int) == ((f k : Nat) : Int)) = true := by simp
      generalize f k = v at hc1 hc2 hq
      clear ha hb
      go_wp2
      go_quiet (fail)
      go_wp2
      go_roundw
      case rel => exact ⟨k + 1, by omega, by go_num, ⟨_, rfl⟩⟩
      case measure => simp [intOf]; omega
    · obtain rfl : k = n := by omega
      clear ha hb
      go_wp2
      go_ret
      exact ⟨rfl, SameW.fr ⟨nq, rfl⟩⟩
end Go.Proofs.Ytekhjpiopbkoaaa
