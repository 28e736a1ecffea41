/- word, long, size, total; putWord, putLong; bytes.Clone; flags. -/
import Derived.Test.YtjpcfphmejenoaaIprr
namespace Go.Proofs.Ytjpcfphmejenoaa
open Go.RowKit
set_option linter.unusedVariables false
set_option maxRecDepth 100000

theorem and_pow (v i : Nat) : v &&& 2 ^ i = if decide (v / 2 ^ i % 2 = 1) then 2 ^ i else 0 := by
  apply Nat.eq_of_testBit_eq
  intro j
  rw [Nat.testBit_and, Nat.testBit_two_pow]
  by_cases h : i = j
  · subst h
    rw [Nat.testBit_eq_decide_div_mod_eq]
    cases decide (v / 2 ^ i % 2 = 1) <;> simp
  · cases decide (v / 2 ^ i % 2 = 1) <;> simp [h]
theorem and_bit {v : Nat} (i : Nat) (hv : v < 65536) (hi : 2 ^ i < 65536) : bits .and .u16 (v : Int) ((2 ^ i : Nat) : Int) = if decide (v / 2 ^ i % 2 = 1) then ((2 ^ i : Nat) : Int) else 0 := by
  rw [u16_and_nat v (2 ^ i) hv hi, and_pow]
  cases decide (v / 2 ^ i % 2 = 1) <;> simp
theorem and_ne {v : Nat} (i : Nat) (m : Int) (hm : m = ((2 ^ i : Nat) : Int)) (hv : v < 65536) (hi : 2 ^ i < 65536) : (bits .and .u16 (v : Int) m != 0) = decide (v / 2 ^ i % 2 = 1) := by
  subst hm
  rw [and_bit i hv hi]
  have hp : 0 < 2 ^ i := Nat.two_pow_pos i
  cases decide (v / 2 ^ i % 2 = 1)
  · simp
  · have : ((2 ^ i : Nat) : Int) ≠ 0 := by omega
    simpa using this
theorem and_low {v : Nat} (hv : v < 65536) : bits .and .u16 (v : Int) 8191 = ((v % 8192 : Nat) : Int) := by
  have h := u16_and_nat v 8191 hv (by decide)
  rw [show (8191 : Nat) = 2 ^ 13 - 1 from rfl, Nat.and_two_pow_sub_one_eq_mod] at h
  simpa using h

theorem SameW.refl' (w : World) : SameW w w := ⟨0, rfl⟩
set_option maxHeartbeats 1000000 in
theorem word_any (A : Option Addr) (n c : Nat) (xs : List UInt8) (k : Nat) (w : World) (hl : xs.length = n) (hrd : Rd w A (B8 xs)) (hk : k + 2 ≤ n) (hn : n ≤ 140737488351232) :
    Calls Try.prog 48 #[.slice A n c, .int .i64 k] w fun e w' => e = .returned (.int .u16 (wd xs k : Nat)) ∧ Fr [] w w' := by
  obtain ⟨x, hx, ex⟩ := bt_get (xs := xs) (k := k) (by omega)
  obtain ⟨y, hy, ey⟩ := bt_get (xs := xs) (k := k + 1) (by omega)
  obtain ⟨b, o, rfl⟩ := rd_addr8 hrd (by omega)
  have hc1 := rdj hrd k x hx
  have hc2 := rdj hrd (k + 1) y hy
  have hor0 : bits BinOp.or IntKind.u16 ((x.toNat : Int) * 256) (y.toNat : Int) = ((256 * x.toNat + y.toNat : Nat) : Int) := or16 x y rfl rfl
  have hor : bits BinOp.or IntKind.u16 ((x.toNat : Int) * 256) (y.toNat : Int) = ((wd xs k : Nat) : Int) := by rw [hor0, ex, ey]; rfl
  have hxl : (x.toNat : Int) < 256 := by have := x.toNat_lt; omega
  have hyl : (y.toNat : Int) < 256 := by have := y.toNat_lt; omega
  have hwx : IntKind.u16.wrap (x.toNat : Int) = (x.toNat : Int) := u16_in (by omega) (by omega)
  have hwx2 : IntKind.u16.wrap ((x.toNat : Int) * 256) = (x.toNat : Int) * 256 := u16_in (by omega) (by omega)
  have hwy : IntKind.u16.wrap (y.toNat : Int) = (y.toNat : Int) := u16_in (by omega) (by omega)
  have hi0 : (0 : Int) ≤ (k : Int) ∧ (k : Int) < (n : Int) := by omega
  have hi2 : (0 : Int) ≤ (k : Int) + 1 ∧ (k : Int) + 1 < (n : Int) := by omega
  have hi3 : ((k : Int) + 1).toNat = k + 1 := by omega
  have hi1 : IntKind.i64.wrap ((k : Int) + 1) = (k : Int) + 1 := IntWalk.i64_in _ (by omega)
  generalize wd xs k = v at hor ⊢
  clear hrd hx hy ex ey hor0 hl
  go_enter Try.func48, Try.ntmps48
  go_wp2
  go_quiet (fail)
  go_wp2
  go_ret
  exact ⟨rfl, (Fr.refl _ _).drewN _⟩
theorem word_lit (A : Option Addr) (n c : Nat) (xs : List UInt8) (k : Nat) (K : Int) (hK : K = k) (w : World) (hl : xs.length = n) (hrd : Rd w A (B8 xs)) (hk : k + 2 ≤ n) (hn : n ≤ 140737488351232) :
    Calls Try.prog 48 #[.slice A n c, .int .i64 K] w fun e w' => e = .returned (.int .u16 (wd xs k : Nat)) ∧ Fr [] w w' := by
  subst hK; exact word_any A n c xs k w hl hrd hk hn

set_option maxHeartbeats 1000000 in
theorem long_any (A : Option Addr) (n c : Nat) (xs : List UInt8) (k : Nat) (K : Int) (hK : K = k) (w : World) (hl : xs.length = n) (hrd : Rd w A (B8 xs)) (hk : k + 4 ≤ n) (hn : n ≤ 140737488351232) :
    Calls Try.prog 50 #[.slice A n c, .int .i64 K] w fun e w' => e = .returned (.int .u32 (lg xs k : Nat)) ∧ Fr [] w w' := by
  subst hK
  have c1 := fun W (hW : Fr [] w W) => word_any A n c xs k W hl (hrd.fr hW (by simp)) (by omega) hn
  have c2 := fun W (hW : Fr [] w W) => word_lit A n c xs (k + 2) ((k : Int) + 2) (by omega) W hl (hrd.fr hW (by simp)) (by omega) hn
  have l1 := wd_lt xs k
  have l2 := wd_lt xs (k + 2)
  have hv : lg xs k = wd xs k * 65536 + wd xs (k + 2) := by unfold lg; omega
  have HV := Lib.hid hv
  generalize lg xs k = v at HV ⊢
  generalize wd xs k = p at *
  generalize wd xs (k + 2) = q at *
  have w1 : IntKind.u32.wrap (p : Int) = p := u32_in (by omega) (by omega)
  have w2 : IntKind.u32.wrap ((p : Int) * 65536) = (p : Int) * 65536 := u32_in (by omega) (by omega)
  have w3 : IntKind.u32.wrap (q : Int) = q := u32_in (by omega) (by omega)
  have w4 : IntKind.i64.wrap ((k : Int) + 2) = (k : Int) + 2 := IntWalk.i64_in _ (by omega)
  have hjn : bits BinOp.or IntKind.u32 ((p : Int) * 65536) (q : Int) = (v : Int) := by
    have h1 := u32_or_nat (p * 65536) q (by omega) (by omega)
    rw [nat_join 16 (p * 65536) q (by omega) (by omega)] at h1
    rw [HV.out, ← h1]; simp
  have C1 := Lib.hid c1
  have C2 := Lib.hid c2
  clear c1 c2 hv hrd hl
  have hF := Fr.refl [] w
  go_enter Try.func50, Try.ntmps50
  go_wp2_with fail
  refine (C1.out _ hF).mono ?_
  rintro e w1' ⟨rfl, hF1⟩
  replace hF := hF.trans hF1
  go_wp2_with fail
  refine (C2.out _ hF).mono ?_
  rintro e w2' ⟨rfl, hF2⟩
  replace hF := hF.trans hF2
  go_wp2_with fail
  go_ret
  exact ⟨rfl, hF⟩

set_option maxHeartbeats 1000000 in
theorem size_any (A : Option Addr) (n c : Nat) (xs : List UInt8) (w : World) (hl : xs.length = n) (hrd : Rd w A (B8 xs)) (hk : 0 < n) :
    Calls Try.prog 30 #[.slice A n c] w fun e w' => e = .returned (.int .i64 (szN xs : Nat)) ∧ Fr [] w w' := by
  obtain ⟨x, hx, ex⟩ := bt_get (xs := xs) (k := 0) (by omega)
  obtain ⟨b, o, rfl⟩ := rd_addr8 hrd (by omega)
  have hc1 := rdj hrd 0 x hx
  rw [Nat.add_zero] at hc1
  have hi0 : (0 : Int) < (n : Int) := by omega
  have hv : szN xs = x.toNat % 16 * 4 := by unfold szN; rw [ex]
  have HV := Lib.hid hv
  have hxl : (x.toNat : Int) < 256 := by have := x.toNat_lt; omega
  have w0 : (x.toNat : Int).tmod 16 = ((x.toNat % 16 : Nat) : Int) := by rw [Int.tmod_eq_emod_of_nonneg (by omega)]; omega
  clear hrd hx ex hl hv
  go_enter Try.func30, Try.ntmps30
  go_wp2
  go_ret
  exact ⟨ret_int (by rw [HV.out]; go_num), Fr.refl _ _⟩
set_option maxHeartbeats 1000000 in
theorem total_any (A : Option Addr) (n c : Nat) (xs : List UInt8) (w : World) (hl : xs.length = n) (hrd : Rd w A (B8 xs)) (hk : 4 ≤ n) (hn : n ≤ 140737488351232) :
    Calls Try.prog 31 #[.slice A n c] w fun e w' => e = .returned (.int .i64 (totN xs : Nat)) ∧ Fr [] w w' := by
  have c1 := word_lit A n c xs 2 2 rfl w hl hrd (by omega) hn
  have l1 := wd_lt xs 2
  have HV : Hid (totN xs = wd xs 2) := rfl
  generalize totN xs = v at HV ⊢
  generalize wd xs 2 = q at *
  have w1 : IntKind.i64.wrap (q : Int) = q := IntWalk.i64_in _ (by omega)
  have C1 := Lib.hid c1
  clear c1 hrd hl
  go_enter Try.func31, Try.ntmps31
  go_wp2_with fail
  refine C1.out.mono ?_
  rintro e w1' ⟨rfl, hF1⟩
  go_wp2_with fail
  go_ret
  exact ⟨ret_int (by rw [HV.out]), hF1⟩

set_option maxHeartbeats 1000000 in
theorem putWord_any {base g n c : Nat} {xs : List UInt8} {w : World} (h : w.ownsRow base 5 1 (.slice (some ⟨g, 0, none⟩) n c) n (B8 xs)) {k v : Nat} (K : Int) (hK : K = k) (hk : k + 2 ≤ n) (hn : n ≤ 140737488351232) (hv : v < 65536) :
    Calls Try.prog 38 #[.slice (some ⟨g, 0, none⟩) n c, .int .i64 K, .int .u16 v] w fun e w' => (∃ r, e = .returned r) ∧ w'.ownsRow base 5 1 (.slice (some ⟨g, 0, none⟩) n c) n (B8 (put2 xs k v)) ∧ Fr [g] w w' := by
  subst hK
  have hxl : xs.length = n := by have := h.1; rw [B8_length] at this; omega
  have hfz := own_fz h
  obtain ⟨x, hx0⟩ : ∃ x, xs[k]? = some x := ⟨_, List.getElem?_eq_getElem (by omega)⟩
  obtain ⟨y, hy0⟩ : ∃ y, xs[k + 1]? = some y := ⟨_, List.getElem?_eq_getElem (by omega)⟩
  have hc1 := own_cell h (j := k) (u := .int .u8 x.toNat) (by rw [B8_get, hx0]; rfl)
  have hc2 := own_cell h (j := k + 1) (u := .int .u8 y.toNat) (by rw [B8_get, hy0]; rfl)
  have hO := own_set (own_set h k (.int .u8 ((v : Int) / 256))) (k + 1) (.int .u8 ((v : Int) % 256))
  rw [B8_set xs k (hi8 v) (by rw [hi8_val hv]; omega), B8_set _ (k + 1) (lo8 v) (by rw [lo8_val]; omega), set_set _ _ _ _ (by omega)] at hO
  have hF : Fr [g] w ((w.setCell ⟨g, k, none⟩ (.int .u8 ((v : Int) / 256))).setCell ⟨g, k + 1, none⟩ (.int .u8 ((v : Int) % 256))) := ((Fr.refl _ w).setCell (.inl (by simp)) _).setCell (.inl (by simp)) _
  have HO := Lib.hid hO
  have hf1 := hfz k
  have hf2 := hfz (k + 1)
  have hw1 : IntKind.u8.wrap ((v : Int) / 256) = (v : Int) / 256 := u8_in (by omega) (by omega)
  have hw2 : IntKind.u8.wrap (v : Int) = (v : Int) % 256 := u8_mod
  have hw3 : IntKind.i64.wrap ((k : Int) + 1) = (k : Int) + 1 := IntWalk.i64_in _ (by omega)
  have hi0 : (0 : Int) ≤ (k : Int) ∧ (k : Int) < (n : Int) := by omega
  have hi2 : (0 : Int) ≤ (k : Int) + 1 ∧ (k : Int) + 1 < (n : Int) := by omega
  have hi3 : ((k : Int) + 1).toNat = k + 1 := by omega
  clear hO hfz h hx0 hy0
  go_enter Try.func38, Try.ntmps38
  go_wp2
  go_end0
  exact ⟨⟨_, rfl⟩, HO.out, hF⟩
set_option maxHeartbeats 1000000 in
theorem putLong_any {base g n c : Nat} {xs : List UInt8} {w : World} (h : w.ownsRow base 5 1 (.slice (some ⟨g, 0, none⟩) n c) n (B8 xs)) {k v : Nat} (K : Int) (hK : K = k) (hk : k + 4 ≤ n) (hn : n ≤ 140737488351232) (hv : v < 4294967296) :
    Calls Try.prog 34 #[.slice (some ⟨g, 0, none⟩) n c, .int .i64 K, .int .u32 v] w fun e w' => (∃ r, e = .returned r) ∧ w'.ownsRow base 5 1 (.slice (some ⟨g, 0, none⟩) n c) n (B8 (put2 (put2 xs k (v / 65536)) (k + 2) (v % 65536))) ∧ Fr [g] w w' := by
  have hhi : ((v / 65536 : Nat) : Int) = (v : Int) / 65536 := by omega
  have hlo : ((v % 65536 : Nat) : Int) = (v : Int) % 65536 := by omega
  have c1 := putWord_any h (k := k) (v := v / 65536) K hK (by omega) hn (by omega)
  have c2 := fun W (h2 : World.ownsRow W base 5 1 (.slice (some ⟨g, 0, none⟩) n c) n (B8 (put2 xs k (v / 65536)))) => putWord_any h2 (k := k + 2) (v := v % 65536) (K + 2) (by omega) (by omega) hn (by omega)
  rw [hhi] at c1
  rw [hlo] at c2
  have w1 : IntKind.u16.wrap ((v : Int) / 65536) = (v : Int) / 65536 := u16_in (by omega) (by omega)
  have w2 : IntKind.u16.wrap (v : Int) = (v : Int) % 65536 := u16_mod
  have w4 : IntKind.i64.wrap (K + 2) = K + 2 := IntWalk.i64_in _ (by omega)
  have C1 := Lib.hid c1
  have C2 := Lib.hid c2
  clear c1 c2 hhi hlo h hK
  go_enter Try.func34, Try.ntmps34
  go_wp2_with fail
  refine C1.out.mono ?_
  rintro e w1' ⟨⟨r, rfl⟩, ho1, hF1⟩
  have c2' := C2.out w1' ho1
  go_wp2_with fail
  refine c2'.mono ?_
  rintro e w2' ⟨⟨r2, rfl⟩, ho2, hF2⟩
  clear c2'
  go_wp2_with fail
  go_end0
  exact ⟨⟨_, rfl⟩, ho2, hF1.trans hF2⟩

/-- bytes.Clone. -/
def CloneP (bs : List UInt8) (w : World) (e : Ending) (w' : World) : Prop := ∃ (A : Option Addr) (c : Nat), e = .returned (.slice A bs.length c) ∧ w'.ownsRow w.heap.size 5 1 (.slice A bs.length c) bs.length (B8 bs) ∧ Fr [] w w'
set_option maxHeartbeats 400000 in
theorem bclone (A : Option Addr) (n c : Nat) (bs : List UInt8) (w : World) (hl : bs.length = n) (hrd : Rd w A (B8 bs)) (hn : n ≤ 140737488351232) :
    Calls Try.prog 33 #[.slice A n c] w (CloneP bs w) := by
  cases A with
  | none =>
    have he := Lib.run_eql_slice_nil (P := Try.prog) w 23 5 none n c 0 0 Try.underlying23
    obtain rfl := nil_of_rd hrd
    clear hl hrd
    go_enter Try.func33, Try.ntmps33
    go_wp2
    go_ret
    exact ⟨none, 0, rfl, World.ownsRow_nil _ _ _ _, Fr.refl _ _⟩
  | some a =>
    have he := Lib.run_eql_slice_nil (P := Try.prog) w 23 5 (some a) n c 0 0 Try.underlying23
    have hF : Fr [] w (w.alloc (.cells #[] 5)) := (Fr.refl _ _).alloc _
    obtain ⟨v', w', hr, ho, hg, _⟩ := app_run el8 (w.alloc (.cells #[] 5)) w.heap.size 23 (.slice (some ⟨w.heap.size, 0, none⟩) 0 0) 0 [] (World.ownsRow_lit w #[] 0 (Nat.le_refl _) (Nat.zero_le _) rfl)
      (some a) n c (B8 bs) (by rw [B8_length]; omega) (hrd.fr hF (by simp)) (B8_one bs) (by simp) (by unfold maxLen; omega) (by omega) (by simp)
    have hfr : Fr [] w w' := hF.trans2 (fr_grown hg) (by simp [Value.ownBlock])
    have ho' : w'.ownsRow w.heap.size 5 1 v' n (B8 bs) := by simpa using ho
    obtain ⟨A', c', rfl, _, _, _⟩ := own_slice ho'
    subst hl
    have HO := Lib.hid ho'
    clear ho ho' hg hF hrd
    go_enter Try.func33, Try.ntmps33
    go_wp2_with (at_builtin; refine wpList_app rfl _ _ _ rfl hr rfl rfl ?_)
    go_ret
    exact ⟨A', c', rfl, HO.out, hfr⟩

theorem or_16384 {v : Nat} (h : v < 16384) : bits BinOp.or IntKind.u16 (v : Int) 16384 = ((v + 16384 : Nat) : Int) := by
  have h1 := u16_or_nat v 16384 (by omega) (by decide)
  rw [Nat.or_comm, nat_join 14 16384 v (by decide) (by omega)] at h1
  rw [Nat.add_comm]; simpa using h1
theorem or_8192 {v : Nat} (h : v % 16384 < 8192) (h2 : v < 32768) : bits BinOp.or IntKind.u16 (v : Int) 8192 = ((v + 8192 : Nat) : Int) := by
  have h1 := u16_or_nat v 8192 (by omega) (by decide)
  have e : v ||| 8192 = v + 8192 := by
    rcases Nat.lt_or_ge v 16384 with h3 | h3
    · rw [Nat.or_comm, nat_join 13 8192 v (by decide) (by omega)]; omega
    · have e1 : v = 16384 + (v - 16384) := by omega
      have e2 : v = 16384 ||| (v - 16384) := by rw [nat_join 14 16384 (v - 16384) (by decide) (by omega)]; omega
      have e3 : (v - 16384) ||| 8192 = 8192 + (v - 16384) := by rw [Nat.or_comm, nat_join 13 8192 _ (by decide) (by omega)]
      rw [e2, Nat.or_assoc, e3, nat_join 14 16384 _ (by decide) (by omega), ← e2]; omega
  rw [e] at h1
  simpa using h1
set_option maxHeartbeats 1000000 in
theorem flags_any (h : Hd) (A : Option Addr) (n c : Nat) (w : World) (h0 : 0 ≤ h.off) (h1 : h.off ≤ 65515) :
    Calls Try.prog 39 #[HV h A n c] w fun e w' => e = .returned (.int .u16 (flN h : Nat)) ∧ Fr [] w w' := by
  unfold HV
  have HE : Hid (flN h = h.off.toNat / 8 + (if h.df then 16384 else 0) + (if h.mf then 8192 else 0)) := rfl
  generalize flN h = r at HE ⊢
  obtain ⟨o, ho⟩ : ∃ o : Nat, h.off = o := ⟨h.off.toNat, by omega⟩
  rw [ho] at HE ⊢
  have ho8 : o / 8 < 8192 := by omega
  have q1 : (o : Int) / 8 = ((o / 8 : Nat) : Int) := by omega
  have q0 : (o : Int).tdiv 8 = ((o / 8 : Nat) : Int) := by rw [Int.tdiv_eq_ediv_of_nonneg (by omega)]; omega
  obtain ⟨p, hp⟩ : ∃ p, p = o / 8 := ⟨_, rfl⟩
  rw [← hp] at q0 q1 ho8
  have HP : Hid (r = p + (if h.df then 16384 else 0) + (if h.mf then 8192 else 0)) := by
    show _ = _
    rw [HE.out, hp]; rfl
  have w1 : IntKind.u16.wrap (p : Int) = p := u16_in (by omega) (by omega)
  have o1 := or_16384 (v := p) (by omega)
  have o2 := or_8192 (v := p) (by omega) (by omega)
  have o3 := or_8192 (v := p + 16384) (by omega) (by omega)
  clear hp HE
  rw [show ((p + 16384 : Nat) : Int) = (p : Int) + 16384 by omega] at o3
  generalize h.df = d at HP ⊢
  generalize h.mf = m at HP ⊢
  cases d <;> cases m
  all_goals
    go_enter Try.func39, Try.ntmps39
    go_wp2
    go_ret
    exact ⟨ret_int (by rw [HP.out]; rfl), (Fr.refl _ _).alloc _⟩
end Go.Proofs.Ytjpcfphmejenoaa
