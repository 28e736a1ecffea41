/- The walk of CsumFixed. -/
import Derived.Test.YtdkpmbefnfdbkaaAwk
import Derived.Test.YtdkpmbefnfdbkaaQfr
import Derived.Outline
namespace Go.Proofs.Ytdkpmbefnfdbkaa
open Go.RowKit

/-- b[:min(len(b), m)]. -/
theorem cut_at (M : Nat) {w : World} {A : Option Addr} {n : Nat} {xs : List UInt8} (hl : xs.length = n) (hrd : Rd w A (B8 xs)) : ∃ m ys, ((n ≤ M ∧ m = n) ∨ (¬ n ≤ M ∧ m = M)) ∧ List.length ys = m ∧ Rd w A (B8 ys) := by
  by_cases hn : n ≤ M
  · exact ⟨n, xs, .inl ⟨hn, rfl⟩, hl, hrd⟩
  · exact ⟨M, xs.take M, .inr ⟨hn, rfl⟩, by rw [List.length_take]; omega, by rw [← B8_take]; exact hrd.take _⟩

theorem w64 {z : Int} (h0 : 0 ≤ z) (h1 : z ≤ 9223372036854775807) : wrap64 z = z := IntWalk.wrap64_in z (by omega)
theorem wsum_put2 {xs : List UInt8} {k v : Nat} {x y : UInt8} (hk : k % 2 = 0) (hv : v < 65536) (hx : xs[k]? = some x) (hy : xs[k + 1]? = some y) : wsum (put2 xs k v) + (256 * x.toNat + y.toNat) = wsum xs + v := by
  have h := wsum_put (a := hi8 v) (b := lo8 v) hk hx hy
  rw [hi8_val hv, lo8_val] at h
  unfold put2
  omega
theorem get_ex {xs : List UInt8} {k : Nat} (h : k < xs.length) : ∃ x, xs[k]? = some x := ⟨_, List.getElem?_eq_getElem h⟩
theorem wsum_fixed {xs : List UInt8} {k : Nat} (hk : k % 2 = 0) (h : k + 2 ≤ xs.length) : wsum (fixed xs k) % 65535 = 0 ∧ 0 < wsum (fixed xs k) := by
  obtain ⟨x, hx⟩ := get_ex (xs := xs) (k := k) (by omega)
  obtain ⟨y, hy⟩ := get_ex (xs := xs) (k := k + 1) (by omega)
  have h1 := wsum_put2 hk (fixC_lt xs k) hx hy
  have h2 := wsum_put2 (v := 0) hk (by decide) hx hy
  have hc : fixC xs k = 65535 - fold (wsum (put2 xs k 0)) := rfl
  have hm := fold_mod (wsum (put2 xs k 0))
  have hle := fold_le (wsum (put2 xs k 0))
  have hz := fold_zero (s := wsum (put2 xs k 0))
  show wsum (put2 xs k (fixC xs k)) % 65535 = 0 ∧ 0 < wsum (put2 xs k (fixC xs k))
  generalize wsum (put2 xs k (fixC xs k)) = a at *
  generalize wsum (put2 xs k 0) = b at *
  generalize fold b = f at *
  omega
theorem right_fixed {xs : List UInt8} {k : Nat} (hk : k % 2 = 0) (h : k + 2 ≤ xs.length) : decide (fold (wsum (fixed xs k)) = 65535) = true := by
  have := wsum_fixed hk h
  rw [decide_eq_true]
  exact fold_full.2 ⟨this.2, this.1⟩
theorem right_same {s : Nat} (h : s % 65535 = 0) : decide (fold s = 65535) = decide (s ≠ 0) := by
  rw [decide_eq_decide, fold_full]; omega
theorem right_diff {s : Nat} (h : s % 65535 ≠ 0) : decide (fold s = 65535) = false := by
  rw [decide_eq_false_iff_not, fold_full]; omega
theorem put2_take {xs : List UInt8} {k v : Nat} (h : k + 2 ≤ xs.length) : (put2 xs k v).take k = xs.take k := by
  unfold put2
  rw [List.append_assoc, List.take_append_of_le_length (by simp; omega), List.take_take, Nat.min_self]
theorem put2_drop {xs : List UInt8} {k v : Nat} (h : k + 2 ≤ xs.length) : (put2 xs k v).drop (k + 2) = xs.drop (k + 2) := by
  unfold put2
  have e : k + 2 = (xs.take k ++ [hi8 v, lo8 v]).length := by simp; omega
  rw [e, List.drop_left, ← e]

theorem eq_qc {A B : Option Addr} {n m c d : Nat} {xs ys : List UInt8} {w W : World} (hW : QC w W) (hxy : xs = ys) (hx : xs.length = n) (hy : ys.length = m) (ha : Rd w A (B8 xs)) (hb : Rd w B (B8 ys)) (hn : n ≤ 9223372036854775000) :
    Calls Try.prog 14 #[.slice A n c, .slice B m d] W fun e w' => e = .returned (.bool true) ∧ QC w w' := by
  refine (equal_any A B n m c d xs ys W hx hy (ha.fr hW.of (by simp)) (hb.fr hW.of (by simp)) hn).mono ?_
  rintro e w' ⟨h1, h2⟩
  rw [decide_eq_true hxy] at h1
  exact ⟨h1, Fr.trans hW.of h2.fr⟩
theorem right_qc {A : Option Addr} {n c : Nat} {xs : List UInt8} {w W : World} {b : Bool} (hW : QC w W) (hl : xs.length = n) (hrd : Rd w A (B8 xs)) (hreach : n ≤ 140737488351232) (hb : decide (fold (wsum xs) = 65535) = b) :
    Calls Try.prog 13 #[.slice A n c] W fun e w' => e = .returned (.bool b) ∧ QC w w' :=
  hb ▸ Calls.qc (right_any A n c xs W hl (hrd.fr hW.of (by simp)) hreach) hW
theorem rd_ite {w : World} {A B : Option Addr} {xs : List Value} {p : Prop} [Decidable p] (h1 : p → Rd w A xs) (h2 : ¬ p → Rd w B xs) : Rd w (if p then A else B) xs := by
  by_cases h : p
  · rw [if_pos h]; exact h1 h
  · rw [if_neg h]; exact h2 h

theorem rd_drop {w : World} {g : Nat} {xs : List UInt8} (h : Rd w (some ⟨g, 0, none⟩) (B8 xs)) (k : Nat) : Rd w (some ⟨g, k, none⟩) (B8 (xs.drop k)) := by
  have h1 := h.drop k
  rw [B8_drop] at h1
  simpa [add_lit] using h1

/-- append of bytes to a literal slice. -/
theorem app_lit (l ys : List UInt8) (p m c : Nat) (A : Option Addr) (w : World) (hl : ys.length = m) (hp : l.length = p) (hrd : Rd w A (B8 ys)) (hnil : A = none → c = 0) (hm : m ≤ 3000) (hp2 : p ≤ 8) :
    ∃ v' w', (Builtin.append_ #[22, 22] 22 #[.slice (some ⟨w.heap.size, 0, none⟩) p p, .slice A m c]).run Try.prog (w.alloc (.cells (B8 l).toArray 5)) = .ok v' w' ∧ w'.ownsRow w.heap.size 5 1 v' (p + m) (B8 (l ++ ys)) ∧ Fr [] w w' := by
  have hF : Fr [] w (w.alloc (.cells (B8 l).toArray 5)) := (Fr.refl _ _).alloc _
  subst hp
  obtain ⟨v', w', hr, ho, hg, _⟩ := app_run el8 (w.alloc (.cells (B8 l).toArray 5)) w.heap.size 22 (.slice (some ⟨w.heap.size, 0, none⟩) l.length l.length) l.length (B8 l)
    (by have h := World.ownsRow_lit (base := w.heap.size) (e := 5) (size := 1) w (B8 l).toArray l.length (Nat.le_refl _) (by unfold maxLen; omega) (by simp [B8]); simpa using h)
    A m c (B8 ys) (by rw [B8_length]; omega) (hrd.fr hF (by simp)) (B8_one ys) hnil (by unfold maxLen; omega) (by omega) (by simp)
  refine ⟨v', w', hr, by rw [B8_append]; exact ho, hF.trans2 (fr_grown hg) (by simp [Value.ownBlock])⟩

/-- In which way two words are the same, or not, and what Right then tells. -/
inductive Way (was to S : Nat) : Prop
  | same (h1 : ((was : Int) == (to : Int)) = true) (hs : decide (fold S = 65535) = decide (S ≠ 0))
  | up (h1 : ((was : Int) == (to : Int)) = false) (h2 : ((was : Int) == 0) = true) (h3 : ((to : Int) == 65535) = true) (hs : decide (fold S = 65535) = decide (S ≠ 0))
  | upno (h1 : ((was : Int) == (to : Int)) = false) (h2 : ((was : Int) == 0) = true) (h3 : ((to : Int) == 65535) = false ∧ ((was : Int) == 65535) = false) (hs : decide (fold S = 65535) = false)
  | down (h1 : ((was : Int) == (to : Int)) = false) (h2 : ((was : Int) == 0) = false) (h3 : ((was : Int) == 65535) = true) (h4 : ((to : Int) == 0) = true) (hs : decide (fold S = 65535) = decide (S ≠ 0))
  | downno (h1 : ((was : Int) == (to : Int)) = false) (h2 : ((was : Int) == 0) = false) (h3 : ((was : Int) == 65535) = true) (h4 : ((to : Int) == 0) = false) (hs : decide (fold S = 65535) = false)
  | no (h1 : ((was : Int) == (to : Int)) = false) (h2 : ((was : Int) == 0) = false) (h3 : ((was : Int) == 65535) = false) (hs : decide (fold S = 65535) = false)
theorem beq_t {a b : Int} (h : a = b) : (a == b) = true := by simpa using h
theorem beq_f {a b : Int} (h : a ≠ b) : (a == b) = false := by simpa using h
theorem way_of {was to S F : Nat} (h : S + was = F + to) (hF : F % 65535 = 0) (hw : was < 65536) (ht : to < 65536) : Way was to S := by
  by_cases h1 : was = to
  · exact .same (beq_t (by omega)) (right_same (by omega))
  · by_cases h2 : was = 0
    · by_cases h3 : to = 65535
      · exact .up (beq_f (by omega)) (beq_t (by omega)) (beq_t (by omega)) (right_same (by omega))
      · exact .upno (beq_f (by omega)) (beq_t (by omega)) ⟨beq_f (by omega), beq_f (by omega)⟩ (right_diff (by omega))
    · by_cases h3 : was = 65535
      · by_cases h4 : to = 0
        · exact .down (beq_f (by omega)) (beq_f (by omega)) (beq_t (by omega)) (beq_t (by omega)) (right_same (by omega))
        · exact .downno (beq_f (by omega)) (beq_f (by omega)) (beq_t (by omega)) (beq_f (by omega)) (right_diff (by omega))
      · exact .no (beq_f (by omega)) (beq_f (by omega)) (beq_f (by omega)) (right_diff (by omega))

set_option maxRecDepth 100000 in
set_option maxHeartbeats 8000000 in
theorem cfixed_any (A : Option Addr) (n c m : Nat) (ys : List UInt8) (at_ whr to : Nat) (w : World) (hm : (n ≤ 3000 ∧ m = n) ∨ (¬ n ≤ 3000 ∧ m = 3000)) (hl : ys.length = m) (hrd : Rd w A (B8 ys)) (hnil : A = none → c = 0) (hnc : n ≤ c)
    (ha : at_ < 65536) (hwh : whr < 65536) (hto : to < 65536) :
    Calls Try.prog 6 #[.slice A n c, .int .u16 at_, .int .u16 whr, .int .u16 to] w fun e w' => e = .returned (.bool true) ∧ Fr [] w w' := by
  have HL := Lib.hid hl
  have HNIL := Lib.hid hnil
  have hm2 : m ≤ 3000 ∧ m ≤ n := by omega
  obtain ⟨N, hN⟩ : ∃ N, N = 2 + m := ⟨_, rfl⟩
  have HN := Lib.hid hN
  have hN2 : 2 ≤ N ∧ N ≤ 3002 := by omega
  clear hl hnil hN
  rcases hm with ⟨hn, hmn⟩ | ⟨hn, hmn⟩
  case' inl => obtain rfl : n = m := hmn.symm
  case' inr => obtain rfl : m = 3000 := hmn
  all_goals
    go_enter Try.func6, Try.ntmps6
    go_wp2_with fail
    refine (awake_any w).mono ?_
    rintro e w1 ⟨rfl, hF⟩
    have hr1 := hrd.fr hF (by simp)
    obtain ⟨v2, w2, hrun, ho2, hF2⟩ := app_lit [0, 0] ys 2 _ c A w1 HL.out rfl hr1 HNIL.out (by omega) (by omega)
    rw [← HN.out] at ho2
    replace hF := hF.trans hF2
    obtain ⟨g, cc, rfl, hg, hcc, hcm⟩ := own_some ho2 (by omega)
    replace hrun : (Builtin.append_ #[22, 22] 22 #[.slice (some ⟨w1.heap.size, 0, none⟩) 2 2, .slice A _ c]).run Try.prog (w1.alloc (.cells #[.int .u8 0, .int .u8 0] 5)) = _ := hrun
    clear hF2 hr1
    go_wp2_with (at_builtin; refine wpList_app rfl _ _ _ rfl hrun rfl rfl ?_)
    clear hrun
    obtain ⟨i, hi⟩ : ∃ i, i = at_ % (N / 2) * 2 := ⟨_, rfl⟩
    obtain ⟨k, hk⟩ : ∃ k, k = whr % (N / 2) * 2 := ⟨_, rfl⟩
    have hq : 1 ≤ N / 2 ∧ N / 2 * 2 ≤ N := by omega
    have hi2 : i % 2 = 0 ∧ i + 2 ≤ N := by
      have := Nat.mod_lt at_ (show 0 < N / 2 by omega)
      generalize at_ % (N / 2) = r at *
      omega
    have hk2 : k % 2 = 0 ∧ k + 2 ≤ N := by
      have := Nat.mod_lt whr (show 0 < N / 2 by omega)
      generalize whr % (N / 2) = r at *
      omega
    have hiw : wrap64 ((at_ : Int) % ((N : Int) / 2) * 2) = (i : Int) := by
      have e : (at_ : Int) % ((N : Int) / 2) * 2 = (i : Int) := by rw [hi]; norm_cast
      rw [e]; exact w64 (by omega) (by omega)
    have hkw : wrap64 ((whr : Int) % ((N : Int) / 2) * 2) = (k : Int) := by
      have e : (whr : Int) % ((N : Int) / 2) * 2 = (k : Int) := by rw [hk]; norm_cast
      rw [e]; exact w64 (by omega) (by omega)
    clear hi hk hq
    rw [hiw]
    generalize hbs : [0, 0] ++ ys = bs at ho2
    have hbl : bs.length = N := by rw [← hbs, HN.out, ← HL.out]; simp; omega
    clear hbs
    have HBL := Lib.hid hbl
    clear hbl
    refine (fix_yes (some ⟨g, 0, none⟩) N cc bs i w2 HBL.out (Rd.own ho2) (by omega) hi2.1 hi2.2).mono ?_
    rintro e w3 ⟨g3, c3, rfl, ho3, hF3⟩
    have hrb := (Rd.own ho2).fr hF3 (by simp)
    replace hF := hF.trans hF3
    have hr3 := Rd.own ho3
    obtain ⟨_, _, he3, _, hc3, _⟩ := own_some ho3 (by omega)
    have hcc3 : N ≤ c3 := by simp only [Value.slice.injEq, true_and] at he3; omega
    have hfl : (fixed bs i).length = N := by unfold fixed; rw [put2_length (by rw [HBL.out]; exact hi2.2)]; exact HBL.out
    have HFL := Lib.hid hfl
    have HT : Hid ((fixed bs i).take i = bs.take i) := put2_take (by rw [HBL.out]; exact hi2.2)
    have HD : Hid ((fixed bs i).drop (i + 2) = bs.drop (i + 2)) := put2_drop (by rw [HBL.out]; exact hi2.2)
    have HR : Hid (decide (fold (wsum (fixed bs i)) = 65535) = true) := right_fixed hi2.1 (by rw [HBL.out]; exact hi2.2)
    have HW : Hid (wsum (fixed bs i) % 65535 = 0) := (wsum_fixed hi2.1 (by rw [HBL.out]; exact hi2.2)).1
    have hT3 := hr3.take i
    have hTb := hrb.take i
    have hD3 := rd_drop hr3 (i + 2)
    have hDb := rd_drop hrb (i + 2)
    rw [B8_take] at hT3 hTb
    have hA1 : c3 = i + 2 → Rd w3 (some ⟨g3, 0, none⟩) (B8 ((fixed bs i).drop (i + 2))) := fun e => by rw [List.drop_of_length_le (by rw [HFL.out]; omega)]; exact Rd.nil _ _
    have hB1 : cc = i + 2 → Rd w3 (some ⟨g, 0, none⟩) (B8 (bs.drop (i + 2))) := fun e => by rw [List.drop_of_length_le (by rw [HBL.out]; omega)]; exact Rd.nil _ _
    have hwr : IntKind.i64.wrap ((i : Int) + 2) = (i : Int) + 2 := IntWalk.i64_in _ (by omega)
    have htn : ((i : Int) + 2).toNat = i + 2 := by omega
    have hb1 : (i : Int) ≤ (c3 : Int) := by omega
    have hb2 : (i : Int) ≤ (cc : Int) := by omega
    have hb3 : (i : Int) + 2 ≤ (N : Int) := by omega
    have hw00 : IntKind.i64.wrap 0 = 0 := by decide
    have hb6 : (0 : Int) ≤ (i : Int) + 2 := by omega
    clear hfl he3 hc3 hcm ho2 hF3
    go_wp2_with fail
    refine wp_region_quiet_fr (by kernel_rfl) (by kernel_rfl) ?_
    repeat (go_big_quiet_step ((intro hW; first
      | exact rfl
      | (go_at_call 13; exact right_qc hW HFL.out hr3 (by omega) HR.out)
      | (go_at_call_of 14 (Value.slice (some ⟨g3, 0, none⟩) i c3); exact eq_qc hW HT.out (by rw [List.length_take, HFL.out]; omega) (by rw [List.length_take, HBL.out]; omega) hT3 hTb (by omega))
      | (go_at_call 14; refine eq_qc hW HD.out ?_ ?_ ?_ ?_ ?_; all_goals (first | exact rd_ite hA1 (fun _ => hD3) | exact rd_ite hB1 (fun _ => hDb) | (rw [List.length_drop, HFL.out]; done) | (rw [List.length_drop, HBL.out]; done) | omega)))))
    refine wpQuiet_nil ?_
    intro w4 hQ4
    generalize (if c3 = i + 2 then (some { block := g3, off := 0 } : Option Addr) else some { block := g3, off := i + 2 }) = E5
    generalize (if cc = i + 2 then (some { block := g, off := 0 } : Option Addr) else some { block := g, off := i + 2 }) = E
    replace hF := hF.trans hQ4.of
    have hr4 := hr3.fr hQ4.of (by simp)
    clear hrb hr3 hT3 hTb hD3 hDb hA1 hB1 hQ4 ho3
    obtain ⟨x, hx⟩ := get_ex (xs := fixed bs i) (k := k) (by rw [HFL.out]; omega)
    obtain ⟨y, hy⟩ := get_ex (xs := fixed bs i) (k := k + 1) (by rw [HFL.out]; omega)
    have hc1 := rdj hr4 k x hx
    have hc2 := rdj hr4 (k + 1) y hy
    rw [Nat.zero_add] at hc1 hc2
    have hor : bits BinOp.or IntKind.u16 ((x.toNat : Int) * 256) (y.toNat : Int) = ((256 * x.toNat + y.toNat : Nat) : Int) := or16 x y rfl rfl
    have HSP : Hid (wsum (put2 (fixed bs i) k to) + (256 * x.toNat + y.toNat) = wsum (fixed bs i) + to) := wsum_put2 hk2.1 hto hx hy
    have hxl : (x.toNat : Int) < 256 := by have := x.toNat_lt; omega
    have hyl : (y.toNat : Int) < 256 := by have := y.toNat_lt; omega
    obtain ⟨was, hwas⟩ : ∃ was, was = 256 * x.toNat + y.toNat := ⟨_, rfl⟩
    have hwl : was < 65536 := by omega
    rw [← hwas] at hor HSP
    have hwx : IntKind.u16.wrap (x.toNat : Int) = (x.toNat : Int) := u16_in (by omega) (by omega)
    have hwx2 : IntKind.u16.wrap ((x.toNat : Int) * 256) = (x.toNat : Int) * 256 := u16_in (by omega) (by omega)
    have hwy : IntKind.u16.wrap (y.toNat : Int) = (y.toNat : Int) := u16_in (by omega) (by omega)
    have hi0 : (0 : Int) ≤ (k : Int) ∧ (k : Int) < (N : Int) := by omega
    have hi3 : (0 : Int) ≤ (k : Int) + 1 ∧ (k : Int) + 1 < (N : Int) := by omega
    have hi4 : ((k : Int) + 1).toNat = k + 1 := by omega
    have hi1 : IntKind.i64.wrap ((k : Int) + 1) = (k : Int) + 1 := IntWalk.i64_in _ (by omega)
    clear hwas hx hy hwr htn hb1 hb2 hb3 hb6
    go_wp2
    go_quiet (fail)
    replace hF := hF.drewN nq
    replace hr4 : Rd (w4.drewN nq) (some ⟨g3, 0, none⟩) (B8 (fixed bs i)) := hr4.alk rfl
    clear hc1 hc2
    go_wp2_with fail
    refine (clone (some ⟨g3, 0, none⟩) N c3 (fixed bs i) (w4.drewN nq) HFL.out hr4 (by omega)).mono ?_
    rintro e w5 ⟨v5, rfl, ho5, hF5⟩
    obtain ⟨g5, c5, rfl, hg5, _, _⟩ := own_some ho5 (by omega)
    have hg5' : w.heap.size ≤ g5 := Nat.le_trans hF.size hg5
    replace hF := hF.trans hF5
    clear hr4
    have hfz := own_fz ho5
    have hf1 := hfz k
    have hf2 := hfz (k + 1)
    obtain ⟨x1, hx1⟩ := get_ex (xs := fixed bs i) (k := k) (by rw [HFL.out]; omega)
    obtain ⟨y1, hy1⟩ := get_ex (xs := fixed bs i) (k := k + 1) (by rw [HFL.out]; omega)
    have hc1 := own_cell ho5 (j := k) (u := .int .u8 x1.toNat) (by rw [B8_get, hx1]; rfl)
    have hc2 := own_cell ho5 (j := k + 1) (u := .int .u8 y1.toNat) (by rw [B8_get, hy1]; rfl)
    have hO := own_set (own_set ho5 k (.int .u8 ((to : Int) / 256))) (k + 1) (.int .u8 ((to : Int) % 256))
    rw [B8_set _ k (hi8 to) (by rw [hi8_val hto]; omega), B8_set _ (k + 1) (lo8 to) (by rw [lo8_val]; omega), set_set _ _ _ _ (by rw [HFL.out]; omega)] at hO
    have HO : Hid (((w5.setCell ⟨g5, k, none⟩ (.int .u8 ((to : Int) / 256))).setCell ⟨g5, k + 1, none⟩ (.int .u8 ((to : Int) % 256))).ownsRow (w4.drewN nq).heap.size 5 1 (.slice (some ⟨g5, 0, none⟩) N c5) N (B8 (put2 (fixed bs i) k to))) := hO
    replace hF : Fr [] w ((w5.setCell ⟨g5, k, none⟩ (.int .u8 ((to : Int) / 256))).setCell ⟨g5, k + 1, none⟩ (.int .u8 ((to : Int) % 256))) := (hF.setCell (.inr hg5') _).setCell (.inr hg5') _
    have hw1 : IntKind.u8.wrap ((to : Int) / 256) = (to : Int) / 256 := u8_in (by omega) (by omega)
    have hw2 : IntKind.u8.wrap (to : Int) = (to : Int) % 256 := u8_mod
    clear hO hfz hx1 hy1 ho5 hF5 hg5 hg5'
    obtain ⟨S, hS⟩ : ∃ S, S = wsum (put2 (fixed bs i) k to) := ⟨_, rfl⟩
    rw [← hS] at HSP
    have hSP := HSP.out
    have hW := HW.out
    have HS := Lib.hid hS
    have hway : Way was to S := by
      generalize wsum (fixed bs i) = F at hSP hW
      exact way_of hSP hW hwl hto
    clear HSP HW hSP hW hS
    rcases hway with ⟨h1, hs⟩ | ⟨h1, h2, h3, hs⟩ | ⟨h1, h2, h3, hs⟩ | ⟨h1, h2, h3, h4, hs⟩ | ⟨h1, h2, h3, h4, hs⟩ | ⟨h1, h2, h3, hs⟩
  all_goals
    have HSS := Lib.hid hs
    clear hs
    go_wp2_with fail
    refine (contains_any tells_fixed (fun _ _ => rfl) (some ⟨g5, 0, none⟩) N c5 _ _ ?_ (Rd.own HO.out) (by omega)).mono ?_
    · rw [put2_length (by rw [HFL.out]; exact hk2.2), HFL.out]
    rintro e w6 ⟨rfl, rfl⟩
    have hRt := right_any (some ⟨g5, 0, none⟩) N c5 _ _ (by rw [put2_length (by rw [HFL.out]; exact hk2.2), HFL.out]) (Rd.own HO.out) (by omega)
    rw [← HS.out] at hRt ⊢
    rw [HSS.out] at hRt
    cases hz : decide (S ≠ 0)
  all_goals
    try rw [hz] at hRt
    clear hz
    go_wp2_with fail
    refine hRt.mono ?_
    clear hRt
    rintro e w6 ⟨rfl, hF6⟩
    go_wp2_with fail
    go_ret
    exact ⟨rfl, hF.trans hF6⟩
end Go.Proofs.Ytdkpmbefnfdbkaa
