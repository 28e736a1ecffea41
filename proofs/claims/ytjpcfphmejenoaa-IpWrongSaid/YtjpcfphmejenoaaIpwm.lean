/- Pick; the plain mathematics of wrong packets. -/
import Derived.Test.YtjpcfphmejenoaaIpbm
namespace Go.Proofs.Ytjpcfphmejenoaa
open Go.RowKit
set_option linter.unusedVariables false
set_option maxRecDepth 100000

set_option maxHeartbeats 1000000 in
theorem pick_any (x : Int) (k : Nat) (w : World) (h1 : 1 ≤ k) (hk : k ≤ 1000) (hx : -9223372036854775808 ≤ x ∧ x ≤ 9223372036854775807) :
    Calls Try.prog 20 #[.int .i64 x, .int .i64 k] w fun e w' => e = .returned (.int .i64 ((x % (k : Int)).toNat : Nat)) ∧ w = w' := by
  obtain ⟨p, hp⟩ : ∃ p : Nat, (x % (k : Int)).toNat = p := ⟨_, rfl⟩
  have hp0 := Int.emod_nonneg x (show (k : Int) ≠ 0 by omega)
  have hpk := Int.emod_lt_of_pos x (show (0 : Int) < (k : Int) by omega)
  have hpe : x % (k : Int) = (p : Int) := by omega
  rw [hp]
  have hd1 : decide ((k : Int) < 1) = false := decide_eq_false (by omega)
  have hd2 : ¬ (k : Int) < 1 := by omega
  have hne : ((k : Int) == 0) = false := beq_eq_false_iff_ne.2 (by omega)
  have hn1 : ¬ (k : Int) = -1 := by omega
  by_cases hneg : x.tmod (k : Int) < 0
  · obtain ⟨r, hr⟩ : ∃ r, r = x.tmod (k : Int) := ⟨_, rfl⟩
    have h2 : r + (k : Int) = (p : Int) := by
      have := @Int.emod_eq_tmod x (k : Int)
      rw [hr]
      split at this
      · omega
      · omega
    have hw : IntKind.i64.wrap r = r := IntWalk.i64_in _ (by omega)
    have hw2 : IntKind.i64.wrap (r + (k : Int)) = (p : Int) := by rw [h2]; exact IntWalk.i64_in _ (by omega)
    rw [← hr] at hneg
    have hr' := hr.symm
    clear hp hp0 hpk hpe hr
    go_enter Try.func20, Try.ntmps20
    go_wp2
    go_ret
    exact ⟨rfl, rfl⟩
  · have h2 : x.tmod (k : Int) = (p : Int) := by
      have := @Int.emod_eq_tmod x (k : Int)
      split at this <;> omega
    have hw2 : IntKind.i64.wrap (p : Int) = (p : Int) := IntWalk.i64_in _ (by omega)
    have hn : ¬ (p : Int) < 0 := by omega
    clear hp hp0 hpk hpe hneg
    go_enter Try.func20, Try.ntmps20
    go_wp2
    go_ret
    exact ⟨rfl, rfl⟩
theorem i64_mod {z : Int} (h0 : 0 ≤ z) (h1 : z < 9223372036854775808) : IntKind.i64.wrap z = z := IntWalk.i64_in _ (by omega)
theorem and_nat (n : Int) (a : Nat) (ha : a < 16) : ∃ v : Nat, bits BinOp.and IntKind.i64 n (a : Int) = ((v &&& a : Nat) : Int) := by
  refine ⟨(BitVec.ofInt 64 n).toNat, ?_⟩
  have h2 : (BitVec.ofInt 64 (a : Int)).toNat = a := by
    rw [BitVec.ofInt_natCast, BitVec.toNat_ofNat]; exact Nat.mod_eq_of_lt (by omega)
  have hle : (BitVec.ofInt 64 n).toNat &&& a ≤ a := Nat.and_le_right
  show IntKind.i64.wrap ((BitVec.ofInt 64 n &&& BitVec.ofInt 64 (a : Int)).toNat : Int) = _
  rw [BitVec.toNat_and, h2]
  exact i64_mod (by omega) (by omega)
theorem and_6 (n : Int) : ∃ q : Nat, bits BinOp.and IntKind.i64 n 6 = (q : Int) ∧ (q = 0 ∨ q = 2 ∨ q = 4 ∨ q = 6) := by
  obtain ⟨v, hv⟩ := and_nat n 6 (by decide)
  have e : v &&& 6 = (v % 8) &&& 6 := by
    have h := Nat.and_two_pow_sub_one_eq_mod v 3
    rw [show 2 ^ 3 = 8 from rfl] at h
    rw [← h, Nat.and_assoc]
    rfl
  have h8 : ∀ r < 8, (r &&& 6 = 0 ∨ r &&& 6 = 2 ∨ r &&& 6 = 4 ∨ r &&& 6 = 6) := by decide
  exact ⟨v &&& 6, hv, by rw [e]; exact h8 _ (Nat.mod_lt _ (by decide))⟩
theorem and_12 (n : Int) : ∃ q : Nat, bits BinOp.and IntKind.i64 n 12 = (q : Int) ∧ (q = 0 ∨ q = 4 ∨ q = 8 ∨ q = 12) := by
  obtain ⟨v, hv⟩ := and_nat n 12 (by decide)
  have e : v &&& 12 = (v % 16) &&& 12 := by
    have h := Nat.and_two_pow_sub_one_eq_mod v 4
    rw [show 2 ^ 4 = 16 from rfl] at h
    rw [← h, Nat.and_assoc]
    rfl
  have h8 : ∀ r < 16, (r &&& 12 = 0 ∨ r &&& 12 = 4 ∨ r &&& 12 = 8 ∨ r &&& 12 = 12) := by decide
  exact ⟨v &&& 12, hv, by rw [e]; exact h8 _ (Nat.mod_lt _ (by decide))⟩
theorem and_1 (n : Int) : ∃ q : Nat, bits BinOp.and IntKind.i64 n 1 = (q : Int) ∧ (q = 0 ∨ q = 1) := by
  obtain ⟨v, hv⟩ := and_nat n 1 (by decide)
  exact ⟨v &&& 1, hv, by rw [Nat.and_one_is_mod]; omega⟩
theorem or_off {v x : Nat} (hv : v % 8 = 0) (hx : x < 8) (hl : v ≤ 70000) : bits BinOp.or IntKind.i64 (v : Int) (x : Int) = ((v + x : Nat) : Int) := by
  have h1 : (BitVec.ofInt 64 (v : Int)).toNat = v := by
    rw [BitVec.ofInt_natCast, BitVec.toNat_ofNat]; exact Nat.mod_eq_of_lt (by omega)
  have h2 : (BitVec.ofInt 64 (x : Int)).toNat = x := by
    rw [BitVec.ofInt_natCast, BitVec.toNat_ofNat]; exact Nat.mod_eq_of_lt (by omega)
  show IntKind.i64.wrap ((BitVec.ofInt 64 (v : Int) ||| BitVec.ofInt 64 (x : Int)).toNat : Int) = _
  rw [BitVec.toNat_or, h1, h2]
  obtain ⟨u, rfl⟩ : ∃ u, v = 2 ^ 3 * u := ⟨v / 8, by omega⟩
  rw [← Nat.two_pow_add_eq_or_of_lt (show x < 2 ^ 3 by omega)]
  exact i64_mod (by omega) (by omega)
theorem room_false {k : Nat} {n : Int} (h : 40 < k ∨ k % 4 ≠ 0 ∨ n < 0 ∨ 65515 - (k : Int) < n) : roomB k n = false := by
  unfold roomB; exact decide_eq_false (by omega)
theorem place_false {off n : Int} (h : off < 0 ∨ off % 8 ≠ 0 ∨ 65515 - off < n) : placeB off n = false := by
  unfold placeB; exact decide_eq_false (by omega)
theorem right_f1 {h : Hd} {n : Int} (e : roomB h.o.length n = false) : rightB h n = false := by simp [rightB, e]
theorem right_f2 {h : Hd} {n : Int} (e : placeB h.off n = false) : rightB h n = false := by simp [rightB, e]
theorem right_f3 {h : Hd} {n : Int} (e : partB h.mf n = false) : rightB h n = false := by simp [rightB, e]
/-- Bytes cut to fewer than 20. -/
theorem wrong_short {xs : List UInt8} (h : xs.length < 20) : faultN xs = 50 := by
  have h0 : bad0 xs = true := by simp only [bad0, decide_eq_true_eq]; exact h
  simp only [faultN, h0]; rfl
/-- A number of words that is too small. -/
theorem wrong_words {xs : List UInt8} (g : Good xs) {p : Nat} (hp : p < 5) : faultN (xs.set 0 (UInt8.ofNat (64 + p))) = 52 := by
  have hl := g.len
  have hb : bt (xs.set 0 (UInt8.ofNat (64 + p))) 0 = 64 + p := by rw [bt_set _ (by omega), if_pos rfl]; exact u8_nat (by omega)
  have h0 : bad0 (xs.set 0 (UInt8.ofNat (64 + p))) = false := by simp only [bad0, decide_eq_false_iff_not, List.length_set]; omega
  have h1 : bad1 (xs.set 0 (UInt8.ofNat (64 + p))) = false := by simp only [bad1, decide_eq_false_iff_not]; rw [hb]; omega
  have h2 : bad2 (xs.set 0 (UInt8.ofNat (64 + p))) = true := by simp only [bad2, decide_eq_true_eq]; unfold szN; rw [hb]; omega
  simp only [faultN, h0, h1, h2]; rfl
/-- Bytes cut within the header, or within the data. -/
theorem wrong_cut {xs : List UInt8} (g : Good xs) {k : Nat} (h20 : 20 ≤ k) (hk : k ≤ szN xs) (ht : szN xs < totN xs ∨ k < szN xs) : faultN (xs.take k) = if k < szN xs then 52 else 53 := by
  have hl := g.len
  have hs := g.sz
  have htt := g.tot
  have hlen : (xs.take k).length = k := by rw [List.length_take]; omega
  have e0 : bt (xs.take k) 0 = bt xs 0 := bt_take (by omega)
  have es : szN (xs.take k) = szN xs := by unfold szN; rw [e0]
  have et : totN (xs.take k) = totN xs := by unfold totN wd; rw [bt_take (by omega), bt_take (by omega)]
  have h0 : bad0 (xs.take k) = false := by simp only [bad0, decide_eq_false_iff_not]; omega
  have h1 : bad1 (xs.take k) = false := by simp only [bad1, decide_eq_false_iff_not]; rw [e0]; have := g.ver; omega
  by_cases h : k < szN xs
  · rw [if_pos h]
    have h2 : bad2 (xs.take k) = true := by simp only [bad2, decide_eq_true_eq]; rw [es]; omega
    simp only [faultN, h0, h1, h2]; rfl
  · rw [if_neg h]
    have h2 : bad2 (xs.take k) = false := by simp only [bad2, decide_eq_false_iff_not]; rw [es]; omega
    have h3 : bad3 (xs.take k) = true := by simp only [bad3, decide_eq_true_eq]; rw [es, et]; omega
    simp only [faultN, h0, h1, h2, h3]; rfl
/-- Another total length. -/
theorem wrong_total {xs : List UInt8} (g : Good xs) (a b : UInt8) (h : 256 * a.toNat + b.toNat < szN xs ∨ xs.length < 256 * a.toNat + b.toNat) : faultN ((xs.set 2 a).set 3 b) = 53 := by
  have hl := g.len
  have hs := g.sz
  have hb := fun i => bt_set (xs := xs.set 2 a) (k := 3) (i := i) b (by rw [List.length_set]; omega)
  have hb2 := fun i => bt_set (xs := xs) (k := 2) (i := i) a (by omega)
  have e0 : bt ((xs.set 2 a).set 3 b) 0 = bt xs 0 := by rw [hb, if_neg (by omega), hb2, if_neg (by omega)]
  have es : szN ((xs.set 2 a).set 3 b) = szN xs := by unfold szN; rw [e0]
  have et : totN ((xs.set 2 a).set 3 b) = 256 * a.toNat + b.toNat := by unfold totN wd; rw [hb, hb, if_neg (by omega), if_pos rfl, hb2, if_pos rfl]
  have h0 : bad0 ((xs.set 2 a).set 3 b) = false := by simp only [bad0, decide_eq_false_iff_not, List.length_set]; omega
  have h1 : bad1 ((xs.set 2 a).set 3 b) = false := by simp only [bad1, decide_eq_false_iff_not]; rw [e0]; have := g.ver; omega
  have h2 : bad2 ((xs.set 2 a).set 3 b) = false := by simp only [bad2, decide_eq_false_iff_not, List.length_set]; rw [es]; omega
  have h3 : bad3 ((xs.set 2 a).set 3 b) = true := by simp only [bad3, decide_eq_true_eq, List.length_set]; rw [es, et]; omega
  simp only [faultN, h0, h1, h2, h3]; rfl
theorem or_64 (p : Nat) (hp : p < 5) : bits BinOp.or IntKind.u8 64 (p : Int) = ((64 + p : Nat) : Int) := by
  match p, hp with
  | 0, _ => decide
  | 1, _ => decide
  | 2, _ => decide
  | 3, _ => decide
  | 4, _ => decide
theorem BoxH.set3 {w : World} {g n c : Nat} {h : Hd} {A : Option Addr} (hB : BoxH w g h A n c) (z : Bool) : BoxH (w.setCell ⟨g, 3, none⟩ (.bool z)) g { h with mf := z } A n c := by
  unfold BoxH at hB ⊢
  simp [World.setCell, Array.getElem?_modify, hB]
theorem box_fz {w : World} {g n c : Nat} {h : Hd} {A : Option Addr} (hB : BoxH w g h A n c) (k : Nat) : w.frozen? ⟨g, k, none⟩ = false := by unfold BoxH at hB; simp [World.frozen?, hB]
/-- append(o[:n:n], make([]byte, e)...), o nil or not. -/
theorem afz_any (w : World) (A : Option Addr) (n : Nat) (olds : List UInt8) (hlo : olds.length = n) (ho : Rd w A (B8 olds)) (hnil : A = none → n = 0) (e : Nat) (he : n + e ≤ 1000) :
    ∃ v' w', (Builtin.append_ #[23, 3] 23 #[.slice A n n, .int .i64 e]).run Try.prog w = .ok v' w' ∧ ∃ A' c', v' = .slice A' (n + e) c' ∧ Fr [] w w' := by
  cases A with
  | none =>
    obtain rfl := hnil rfl
    obtain ⟨v4, w4, hr4, o4, hg4, _⟩ := zapp_run (P := Try.prog) (t := 23) (e := 5) (bytes := 1) (ti := 3) (k := .i64) (z := .int .u8 0) Try.underlying23 (by kernel_rfl) rfl rfl Try.underlying3 w w.heap.size 23 (.slice none 0 0) 0 [] (World.ownsRow_nil w _ _ 1) e (by unfold maxLen; omega) (by omega) (Nat.le_refl _)
    obtain ⟨A4, c4, rfl, _⟩ := own_slice o4
    exact ⟨_, w4, hr4, A4, c4, rfl, (Fr.refl [] w).grown hg4 (by simp [Value.ownBlock])⟩
  | some b =>
    obtain ⟨v4, w4, hr4, A4, c4, rfl, _, _, _, _, hF4⟩ := afz_run (P := Try.prog) (t := 23) (e := 5) (bytes := 1) (ti := 3) (k := .i64) (k2 := .i64) (z := .int .u8 0) Try.underlying23 (by kernel_rfl) rfl Try.underlying3 w 23 b n (B8 olds) (by rw [B8_length, hlo]) ho e (by unfold maxLen; omega) (by omega)
    exact ⟨_, w4, hr4, A4, c4, rfl, hF4⟩
theorem make_any (w : World) (K : Nat) (hK : K ≤ 1000) : ∃ w', (Instr.makeSlice 23 (.int .i64 (K : Int)) (.int .i64 (K : Int))).run Try.prog w = .ok (.slice (some ⟨w.heap.size, 0, none⟩) K K) w' ∧ Fr [] w w' := by
  obtain ⟨i0, hi, hz0, hz1, hz2⟩ := info_parts info8
  obtain ⟨w1, hm, ho, hg⟩ := run_make_full (P := Try.prog) w w.heap.size 23 5 i0 (.int .u8 0) 1 Try.underlying23 hi hz0 hz1 .i64 .i64 K (by rw [hz2]; omega) (by unfold maxLen; omega) (Nat.le_refl _)
  exact ⟨w1, hm, (Fr.refl _ _).grown hg (by simp)⟩
end Go.Proofs.Ytjpcfphmejenoaa
