/- The walk of CsumUpdates. -/
import Derived.Test.YtdkpmbefnfdbkaaFixed
namespace Go.Proofs.Ytdkpmbefnfdbkaa
open Go.RowKit

theorem join32 (i : Nat) (a b : Nat) {A B : Int} (hA : A = a) (hB : B = b) (ha : a % 2 ^ i = 0) (hb : b < 2 ^ i) (h : a + b < 4294967296) : bits BinOp.or IntKind.u32 A B = (a + b : Nat) := by
  subst hA hB
  rw [u32_or_nat a b (by omega) (by omega), nat_join i a b ha hb]

set_option maxRecDepth 20000 in
theorem tells_upd : Tells0 22 := fun x w => by
  have h := ne_zero8 x
  have H := Lib.hid h
  clear h
  go_enter Try.func22, Try.ntmps22
  go_wp2
  go_ret
  exact ⟨by rw [← H.out]; rfl, rfl⟩
set_option maxRecDepth 20000 in
theorem nonzero_is {A : Option Addr} {n c : Nat} {xs : List UInt8} {w : World} {b : Bool} (hl : xs.length = n) (hrd : Rd w A (B8 xs)) (hreach : n ≤ 140737488351232) (hb : decide (wsum xs ≠ 0) = b) :
    Calls Try.prog 21 #[.slice A n c] w fun e w' => e = .returned (.bool b) ∧ w = w' := by
  have hC := contains_any tells_upd (fun _ _ => rfl) A n c xs w hl hrd hreach
  rw [hb] at hC
  clear hb hrd hl
  go_enter Try.func21, Try.ntmps21
  go_wp2_with fail
  refine hC.mono ?_
  rintro e w' ⟨rfl, rfl⟩
  clear hC
  go_wp2_with fail
  go_ret
  exact ⟨rfl, rfl⟩

/-- Update of the checksum of bytes. -/
theorem upd_sum {B W o t : Nat} (h : W + o = B + t) (ho : o < 65536) (ht : t < 65536) : upd (65535 - fold B) o t = if W = 0 then 0 else 65535 - fold W := by
  have h1 := fold_le B
  have h2 := fold_mod B
  have h3 := fold_zero (s := B)
  unfold upd
  have e : 65535 - (65535 - fold B) = fold B := by omega
  rw [e]
  generalize fold B = f at *
  unfold fold
  split <;> split <;> (try split) <;> omega
theorem upd_sum2 {B W V o t p u : Nat} (h : W + o = B + t) (h2 : V + p = W + u) (ho : o < 65536) (ht : t < 65536) (hp : p < 65536) (hu : u < 65536) (hV : V ≠ 0) : upd (upd (65535 - fold B) o t) p u = 65535 - fold V := by
  rw [upd_sum h ho ht]
  by_cases hW : W = 0
  · rw [if_pos hW]
    unfold upd fold
    split <;> omega
  · rw [if_neg hW, upd_sum h2 hp hu, if_neg hV]

theorem put2_get {xs : List UInt8} {k v j : Nat} (h : k + 2 ≤ xs.length) (hj : k + 2 ≤ j) : (put2 xs k v)[j]? = xs[j]? := by
  unfold put2
  rw [List.getElem?_append_right (by simp; omega), List.getElem?_drop]
  congr 1
  simp
  omega

set_option maxRecDepth 100000 in
set_option maxHeartbeats 8000000 in
theorem cupdates_any (A : Option Addr) (n c m : Nat) (ys : List UInt8) (at_ to : Nat) (w : World) (hm : (n ≤ 3000 ∧ m = n) ∨ (¬ n ≤ 3000 ∧ m = 3000)) (hl : ys.length = m) (hrd : Rd w A (B8 ys)) (hnil : A = none → c = 0) (hnc : n ≤ c)
    (ha : at_ < 65536) (hto : to < 4294967296) :
    Calls Try.prog 8 #[.slice A n c, .int .u16 at_, .int .u32 to] w fun e w' => e = .returned (.bool true) ∧ Fr [] w w' := by
  have HL := Lib.hid hl
  have HNIL := Lib.hid hnil
  have hm2 : m ≤ 3000 ∧ m ≤ n := by omega
  have hmin := min_is (M := 3000) rfl hm
  clear hm
  obtain ⟨N, hN⟩ : ∃ N, N = 4 + m := ⟨_, rfl⟩
  have HN := Lib.hid hN
  have hN2 : 4 ≤ N ∧ N ≤ 3004 := by omega
  clear hl hnil hN
  go_enter Try.func8, Try.ntmps8
  go_wp2_with fail
  refine (awake_any w).mono ?_
  rintro e w1 ⟨rfl, hF⟩
  have hr1 := hrd.fr hF (by simp)
  obtain ⟨v2, w2, hrun, ho2, hF2⟩ := app_lit [0, 0, 0, 0] ys 4 _ c A w1 HL.out rfl hr1 HNIL.out (by omega) (by omega)
  rw [← HN.out] at ho2
  replace hF := hF.trans hF2
  obtain ⟨g, cc, rfl, hg, hcc, hcm⟩ := own_some ho2 (by omega)
  replace hrun : (Builtin.append_ #[22, 22] 22 #[.slice (some ⟨w1.heap.size, 0, none⟩) 4 4, .slice A m c]).run Try.prog (w1.alloc (.cells #[.int .u8 0, .int .u8 0, .int .u8 0, .int .u8 0] 5)) = _ := hrun
  have hgl : g < w2.heap.size := (ho2.lt g rfl).2
  have hr2 := Rd.own ho2
  generalize hbs : [0, 0, 0, 0] ++ ys = bs at hr2
  have hbl : bs.length = N := by rw [← hbs, HN.out, ← HL.out]; simp; omega
  have HBL := Lib.hid hbl
  obtain ⟨i, hi⟩ : ∃ i, i = at_ % (N / 2 - 1) * 2 := ⟨_, rfl⟩
  have hq : 1 ≤ N / 2 - 1 ∧ (N / 2 - 1) * 2 + 2 ≤ N := by omega
  have hi2 : i % 2 = 0 ∧ i + 4 ≤ N := by
    have := Nat.mod_lt at_ (show 0 < N / 2 - 1 by omega)
    generalize at_ % (N / 2 - 1) = r at *
    omega
  have hnq : (N : Int) / 2 - 1 = ((N / 2 - 1 : Nat) : Int) := by omega
  have hiw : ((at_ : Int) % ((N / 2 - 1 : Nat) : Int) * 2) = (i : Int) := by rw [hi]; norm_cast
  have hnw : IntKind.i64.wrap ((N : Int) / 2 - 1) = ((N / 2 - 1 : Nat) : Int) := by rw [hnq]; exact IntWalk.i64_in _ (by omega)
  have hq1 : 1 ≤ N / 2 - 1 := hq.1
  generalize N / 2 - 1 = q at hnq hiw hnw hq1
  have hiw2 : wrap64 ((at_ : Int) % (q : Int) * 2) = (i : Int) := by rw [hiw]; exact w64 (by omega) (by omega)
  clear hF2 hr1 hbl ho2 hbs hcm hi hq
  go_wp2_with (at_builtin; refine wpList_app rfl _ _ _ rfl hrun rfl rfl ?_)
  clear hrun
  refine (clone (some ⟨g, 0, none⟩) N cc bs w2 HBL.out hr2 (by omega)).mono ?_
  rintro e w3 ⟨v3, rfl, ho3, hF3⟩
  obtain ⟨g3, c3, rfl, hg3, _, _⟩ := own_some ho3 (by omega)
  have hg3' : w.heap.size ≤ g3 := Nat.le_trans hF.size hg3
  have hgg : g ≠ g3 := by omega
  have hr3 := hr2.fr hF3 (by simp)
  replace hF := hF.trans hF3
  obtain ⟨x, hx⟩ := get_ex (xs := bs) (k := i) (by rw [HBL.out]; omega)
  obtain ⟨y, hy⟩ := get_ex (xs := bs) (k := i + 1) (by rw [HBL.out]; omega)
  obtain ⟨z, hz⟩ := get_ex (xs := bs) (k := i + 2) (by rw [HBL.out]; omega)
  obtain ⟨u, hu⟩ := get_ex (xs := bs) (k := i + 3) (by rw [HBL.out]; omega)
  have hc1 := rdj hr3 i x hx
  have hc2 := rdj hr3 (i + 1) y hy
  have hc3 := rdj hr3 (i + 2) z hz
  have hc4 := rdj hr3 (i + 3) u hu
  rw [Nat.zero_add] at hc1 hc2 hc3 hc4
  have hxl : x.toNat < 256 := x.toNat_lt
  have hyl : y.toNat < 256 := y.toNat_lt
  have hzl : z.toNat < 256 := z.toNat_lt
  have hul : u.toNat < 256 := u.toNat_lt
  have hj1 : bits BinOp.or IntKind.u32 ((x.toNat : Int) * 16777216) ((y.toNat : Int) * 65536) = ((x.toNat * 16777216 + y.toNat * 65536 : Nat) : Int) := join32 24 (x.toNat * 16777216) (y.toNat * 65536) (by omega) (by omega) (by omega) (by omega) (by omega)
  have hj2 : bits BinOp.or IntKind.u32 ((x.toNat * 16777216 + y.toNat * 65536 : Nat) : Int) ((z.toNat : Int) * 256) = ((x.toNat * 16777216 + y.toNat * 65536 + z.toNat * 256 : Nat) : Int) := join32 16 (x.toNat * 16777216 + y.toNat * 65536) (z.toNat * 256) rfl (by omega) (by omega) (by omega) (by omega)
  have hj3 : bits BinOp.or IntKind.u32 ((x.toNat * 16777216 + y.toNat * 65536 + z.toNat * 256 : Nat) : Int) (u.toNat : Int) = ((x.toNat * 16777216 + y.toNat * 65536 + z.toNat * 256 + u.toNat : Nat) : Int) := join32 8 (x.toNat * 16777216 + y.toNat * 65536 + z.toNat * 256) u.toNat rfl rfl (by omega) (by omega) (by omega)
  obtain ⟨old1, ho1⟩ : ∃ old1, old1 = x.toNat * 16777216 + y.toNat * 65536 := ⟨_, rfl⟩
  obtain ⟨old2, ho2⟩ : ∃ old2, old2 = old1 + z.toNat * 256 := ⟨_, rfl⟩
  obtain ⟨old, hold⟩ : ∃ old, old = old2 + u.toNat := ⟨_, rfl⟩
  have hoh : old / 65536 = 256 * x.toNat + y.toNat := by omega
  have hol : old % 65536 = 256 * z.toNat + u.toNat := by omega
  rw [← ho1] at hj1 hj2 hj3
  rw [← ho2] at hj2 hj3
  rw [← hold] at hj3
  have hold2 : old < 4294967296 := by omega
  have HS1 : Hid (wsum (put2 bs i (to / 65536)) + old / 65536 = wsum bs + to / 65536) := by
    rw [hoh]; exact wsum_put2 hi2.1 (by omega) hx hy
  have HS2 : Hid (wsum (put2 (put2 bs i (to / 65536)) (i + 2) (to % 65536)) + old % 65536 = wsum (put2 bs i (to / 65536)) + to % 65536) := by
    rw [hol]
    exact wsum_put2 (by omega) (by omega) (by rw [put2_get (by rw [HBL.out]; omega) (by omega)]; exact hz) (by rw [put2_get (by rw [HBL.out]; omega) (by omega)]; exact hu)
  have hwx : IntKind.u32.wrap (x.toNat : Int) = (x.toNat : Int) := u32_in (by omega) (by omega)
  have hwx2 : IntKind.u32.wrap ((x.toNat : Int) * 16777216) = (x.toNat : Int) * 16777216 := u32_in (by omega) (by omega)
  have hwy : IntKind.u32.wrap (y.toNat : Int) = (y.toNat : Int) := u32_in (by omega) (by omega)
  have hwy2 : IntKind.u32.wrap ((y.toNat : Int) * 65536) = (y.toNat : Int) * 65536 := u32_in (by omega) (by omega)
  have hwz : IntKind.u32.wrap (z.toNat : Int) = (z.toNat : Int) := u32_in (by omega) (by omega)
  have hwz2 : IntKind.u32.wrap ((z.toNat : Int) * 256) = (z.toNat : Int) * 256 := u32_in (by omega) (by omega)
  have hwu : IntKind.u32.wrap (u.toNat : Int) = (u.toNat : Int) := u32_in (by omega) (by omega)
  have hi0 : (0 : Int) ≤ (i : Int) ∧ (i : Int) < (N : Int) := by omega
  have hi1 : IntKind.i64.wrap ((i : Int) + 1) = (i : Int) + 1 := IntWalk.i64_in _ (by omega)
  have hi1a : (0 : Int) ≤ (i : Int) + 1 ∧ (i : Int) + 1 < (N : Int) := by omega
  have hi1b : ((i : Int) + 1).toNat = i + 1 := by omega
  have hi2w : IntKind.i64.wrap ((i : Int) + 2) = (i : Int) + 2 := IntWalk.i64_in _ (by omega)
  have hi2a : (0 : Int) ≤ (i : Int) + 2 ∧ (i : Int) + 2 < (N : Int) := by omega
  have hi2b : ((i : Int) + 2).toNat = i + 2 := by omega
  have hi3w : IntKind.i64.wrap ((i : Int) + 3) = (i : Int) + 3 := IntWalk.i64_in _ (by omega)
  have hi3a : (0 : Int) ≤ (i : Int) + 3 ∧ (i : Int) + 3 < (N : Int) := by omega
  have hi3b : ((i : Int) + 3).toNat = i + 3 := by omega
  clear ho1 ho2 hold hoh hol hx hy hz hu hr2 hF3 hnq hiw hnw hiw2
  go_wp2
  go_quiet (fail)
  replace hF := hF.drewN nq
  have ho4 : (w3.drewN nq).ownsRow w2.heap.size 5 1 (.slice (some ⟨g3, 0, none⟩) N c3) N (B8 bs) := own_alk ho3 rfl
  have hr4 : Rd (w3.drewN nq) (some ⟨g, 0, none⟩) (B8 bs) := hr3.alk rfl
  have hfz := own_fz ho4
  have hf1 := hfz i
  have hf2 := hfz (i + 1)
  obtain ⟨x1, hx1⟩ := get_ex (xs := bs) (k := i) (by rw [HBL.out]; omega)
  obtain ⟨y1, hy1⟩ := get_ex (xs := bs) (k := i + 1) (by rw [HBL.out]; omega)
  have hd1 := own_cell ho4 (j := i) (u := .int .u8 x1.toNat) (by rw [B8_get, hx1]; rfl)
  have hd2 := own_cell ho4 (j := i + 1) (u := .int .u8 y1.toNat) (by rw [B8_get, hy1]; rfl)
  have hO := own_set (own_set ho4 i (.int .u8 ((to : Int) / 16777216))) (i + 1) (.int .u8 ((to : Int) / 65536 % 256))
  rw [B8_set _ i (hi8 (to / 65536)) (by rw [hi8_val (by omega)]; omega), B8_set _ (i + 1) (lo8 (to / 65536)) (by rw [lo8_val]; omega), set_set _ _ _ _ (by rw [HBL.out]; omega)] at hO
  replace hF : Fr [] w (((w3.drewN nq).setCell ⟨g3, i, none⟩ (.int .u8 ((to : Int) / 16777216))).setCell ⟨g3, i + 1, none⟩ (.int .u8 ((to : Int) / 65536 % 256))) := (hF.setCell (.inr hg3') _).setCell (.inr hg3') _
  have hFs : Fr [g3] (w3.drewN nq) (((w3.drewN nq).setCell ⟨g3, i, none⟩ (.int .u8 ((to : Int) / 16777216))).setCell ⟨g3, i + 1, none⟩ (.int .u8 ((to : Int) / 65536 % 256))) := ((Fr.refl _ _).setCell (.inl (by simp)) _).setCell (.inl (by simp)) _
  have hr5 := hr4.fr hFs (by intro ad e; injection e with e; subst e; simpa using hgg)
  have hv1 : IntKind.u8.wrap ((to : Int) / 16777216) = (to : Int) / 16777216 := u8_in (by omega) (by omega)
  have hv2 : IntKind.u8.wrap ((to : Int) / 65536) = (to : Int) / 65536 % 256 := u8_mod
  have HO : Hid ((((w3.drewN nq).setCell ⟨g3, i, none⟩ (.int .u8 ((to : Int) / 16777216))).setCell ⟨g3, i + 1, none⟩ (.int .u8 ((to : Int) / 65536 % 256))).ownsRow w2.heap.size 5 1 (.slice (some ⟨g3, 0, none⟩) N c3) N (B8 (put2 bs i (to / 65536)))) := hO
  have hm1 : IntKind.u16.wrap ((old : Int) / 65536) = ((old / 65536 : Nat) : Int) := by rw [u16_in (by omega) (by omega)]; omega
  have hm2 : IntKind.u16.wrap ((to : Int) / 65536) = ((to / 65536 : Nat) : Int) := by rw [u16_in (by omega) (by omega)]; omega
  clear hO hfz hx1 hy1 ho3 ho4 hr3 hr4 hFs hc1 hc2 hc3 hc4 hj1 hj2 hj3 hwx hwx2 hwy hwy2 hwz hwz2 hwu hxl hyl hzl hul
  go_wp2_with fail
  generalize ((w3.drewN nq).setCell ⟨g3, i, none⟩ (.int .u8 ((to : Int) / 16777216))).setCell ⟨g3, i + 1, none⟩ (.int .u8 ((to : Int) / 65536 % 256)) = w4 at HO hr5 hF ⊢
  refine (of_any (some ⟨g, 0, none⟩) N cc bs w4 HBL.out hr5 (by omega)).mono ?_
  rintro e w5 ⟨rfl, hF5⟩
  replace hF := hF.trans hF5
  have ho5 := hF5.own HO.out (by simp)
  have hr6 := hr5.fr hF5 (by simp)
  have hc0 : 65535 - fold (wsum bs) < 65536 := by omega
  clear HO hF5 hr5
  go_wp2_with fail
  refine (update_any (65535 - fold (wsum bs)) (old / 65536) (to / 65536) w5 hc0 (by omega) (by omega)).mono ?_
  rintro e w6 ⟨rfl, hF6⟩
  replace hF := hF.trans hF6
  replace ho5 := hF6.own ho5 (by simp)
  replace hr6 := hr6.fr hF6 (by simp)
  have HU1 : Hid (upd (65535 - fold (wsum bs)) (old / 65536) (to / 65536) = _) := upd_sum HS1.out (by omega) (by omega)
  have HU2 : wsum (put2 (put2 bs i (to / 65536)) (i + 2) (to % 65536)) ≠ 0 → upd32 (65535 - fold (wsum bs)) old to = 65535 - fold (wsum (put2 (put2 bs i (to / 65536)) (i + 2) (to % 65536))) := fun h => upd_sum2 HS1.out HS2.out (by omega) (by omega) (by omega) (by omega) h
  have hpl : (put2 bs i (to / 65536)).length = N := by rw [put2_length (by rw [HBL.out]; omega), HBL.out]
  have HPL := Lib.hid hpl
  have HU2 := Lib.hid HU2
  generalize hps : put2 bs i (to / 65536) = ps at ho5 HU1 HU2 HPL
  have hul := upd_lt (65535 - fold (wsum bs)) (old / 65536) (to / 65536)
  generalize hup : upd (65535 - fold (wsum bs)) (old / 65536) (to / 65536) = up at hul HU1
  clear hF6 HS1 HS2 hpl hps
  go_wp2_with fail
  by_cases hz : wsum ps = 0
  · have hu0 : up = 0 := by rw [HU1.out, if_pos hz]
    subst hu0
    refine (nonzero_is HPL.out (Rd.own ho5) (by omega) (b := false) (by simpa using hz)).mono ?_
    rintro e w' ⟨rfl, rfl⟩
    go_wp2_with fail
    refine (nonzero_is HPL.out (Rd.own ho5) (by omega) (b := false) (by simpa using hz)).mono ?_
    rintro e w' ⟨rfl, rfl⟩
    clear hz HU1
    have hfz := own_fz ho5
    have hf3 := hfz (i + 2)
    have hf4 := hfz (i + 3)
    obtain ⟨x2, hx2⟩ := get_ex (xs := ps) (k := i + 2) (by rw [HPL.out]; omega)
    obtain ⟨y2, hy2⟩ := get_ex (xs := ps) (k := i + 3) (by rw [HPL.out]; omega)
    have hd3 := own_cell ho5 (j := i + 2) (u := .int .u8 x2.toNat) (by rw [B8_get, hx2]; rfl)
    have hd4 := own_cell ho5 (j := i + 3) (u := .int .u8 y2.toNat) (by rw [B8_get, hy2]; rfl)
    have hO := own_set (own_set ho5 (i + 2) (.int .u8 ((to : Int) / 256 % 256))) (i + 2 + 1) (.int .u8 ((to : Int) % 256))
    rw [B8_set _ (i + 2) (hi8 (to % 65536)) (by rw [hi8_val (by omega)]; omega), B8_set _ (i + 2 + 1) (lo8 (to % 65536)) (by rw [lo8_val]; omega), set_set _ _ _ _ (by rw [HPL.out]; omega)] at hO
    have HO2 : Hid (((w6.setCell ⟨g3, i + 2, none⟩ (.int .u8 ((to : Int) / 256 % 256))).setCell ⟨g3, i + 3, none⟩ (.int .u8 ((to : Int) % 256))).ownsRow w2.heap.size 5 1 (.slice (some ⟨g3, 0, none⟩) N c3) N (B8 (put2 ps (i + 2) (to % 65536)))) := hO
    replace hF : Fr [] w ((w6.setCell ⟨g3, i + 2, none⟩ (.int .u8 ((to : Int) / 256 % 256))).setCell ⟨g3, i + 3, none⟩ (.int .u8 ((to : Int) % 256))) := (hF.setCell (.inr hg3') _).setCell (.inr hg3') _
    have hFs : Fr [g3] w6 ((w6.setCell ⟨g3, i + 2, none⟩ (.int .u8 ((to : Int) / 256 % 256))).setCell ⟨g3, i + 3, none⟩ (.int .u8 ((to : Int) % 256))) := ((Fr.refl _ _).setCell (.inl (by simp)) _).setCell (.inl (by simp)) _
    have hr7 := hr6.fr hFs (by intro ad e; injection e with e; subst e; simpa using hgg)
    have hv3 : IntKind.u8.wrap ((to : Int) / 256) = (to : Int) / 256 % 256 := u8_mod
    have hv4 : IntKind.u8.wrap (to : Int) = (to : Int) % 256 := u8_mod
    clear hO hfz hx2 hy2 ho5 hr6 hFs
    go_wp2_with fail
    generalize (w6.setCell ⟨g3, i + 2, none⟩ (.int .u8 ((to : Int) / 256 % 256))).setCell ⟨g3, i + 3, none⟩ (.int .u8 ((to : Int) % 256)) = w8 at HO2 hr7 hF ⊢
    refine (of_any (some ⟨g, 0, none⟩) N cc bs w8 HBL.out hr7 (by omega)).mono ?_
    rintro e w9 ⟨rfl, hF9⟩
    replace hF := hF.trans hF9
    have ho9 := hF9.own HO2.out (by simp)
    clear HO2 hF9 hr7 hd3 hd4 hf3 hf4
    go_wp2_with fail
    refine (update32_any (65535 - fold (wsum bs)) old to w9 hc0 hold2 hto).mono ?_
    rintro e w10 ⟨rfl, hF10⟩
    replace hF := hF.trans hF10
    replace ho9 := hF10.own ho9 (by simp)
    have HQL : Hid ((put2 ps (i + 2) (to % 65536)).length = N) := by show _ = _; rw [put2_length (by rw [HPL.out]; omega), HPL.out]
    generalize put2 ps (i + 2) (to % 65536) = qs at ho9 HU2 HQL
    generalize upd32 (65535 - fold (wsum bs)) old to = up2 at HU2
    clear hF10
    go_wp2_with fail
    by_cases hz2 : wsum qs = 0
    · refine (nonzero_is HQL.out (Rd.own ho9) (by omega) (b := false) (by simpa using hz2)).mono ?_
      rintro e w' ⟨rfl, rfl⟩
      clear hz2
      go_wp2_with fail
      go_ret
      exact ⟨rfl, hF⟩
    · have hOf2 := of_any (some ⟨g3, 0, none⟩) N c3 qs w10 HQL.out (Rd.own ho9) (by omega)
      rw [← HU2.out hz2] at hOf2
      refine (nonzero_is HQL.out (Rd.own ho9) (by omega) (b := true) (by simpa using hz2)).mono ?_
      rintro e w' ⟨rfl, rfl⟩
      clear hz2
      go_wp2_with fail
      refine hOf2.mono ?_
      clear hOf2
      rintro e w11 ⟨rfl, hF11⟩
      go_wp2_with fail
      go_ret
      exact ⟨rfl, hF.trans hF11⟩
  · have hu0 : up = 65535 - fold (wsum ps) := by rw [HU1.out, if_neg hz]
    refine (nonzero_is HPL.out (Rd.own ho5) (by omega) (b := true) (by simpa using hz)).mono ?_
    rintro e w' ⟨rfl, rfl⟩
    go_wp2_with fail
    have hOf := of_any (some ⟨g3, 0, none⟩) N c3 ps w6 HPL.out (Rd.own ho5) (by omega)
    rw [← hu0] at hOf
    refine hOf.mono ?_
    clear hOf
    rintro e w7 ⟨rfl, hF7⟩
    replace hF := hF.trans hF7
    replace ho5 := hF7.own ho5 (by simp)
    replace hr6 := hr6.fr hF7 (by simp)
    clear hF7 HU1
    go_wp2_with fail
    refine (nonzero_is HPL.out (Rd.own ho5) (by omega) (b := true) (by simpa using hz)).mono ?_
    rintro e w' ⟨rfl, rfl⟩
    clear hz hu0
    have hfz := own_fz ho5
    have hf3 := hfz (i + 2)
    have hf4 := hfz (i + 3)
    obtain ⟨x2, hx2⟩ := get_ex (xs := ps) (k := i + 2) (by rw [HPL.out]; omega)
    obtain ⟨y2, hy2⟩ := get_ex (xs := ps) (k := i + 3) (by rw [HPL.out]; omega)
    have hd3 := own_cell ho5 (j := i + 2) (u := .int .u8 x2.toNat) (by rw [B8_get, hx2]; rfl)
    have hd4 := own_cell ho5 (j := i + 3) (u := .int .u8 y2.toNat) (by rw [B8_get, hy2]; rfl)
    have hO := own_set (own_set ho5 (i + 2) (.int .u8 ((to : Int) / 256 % 256))) (i + 2 + 1) (.int .u8 ((to : Int) % 256))
    rw [B8_set _ (i + 2) (hi8 (to % 65536)) (by rw [hi8_val (by omega)]; omega), B8_set _ (i + 2 + 1) (lo8 (to % 65536)) (by rw [lo8_val]; omega), set_set _ _ _ _ (by rw [HPL.out]; omega)] at hO
    have HO2 : Hid (((w7.setCell ⟨g3, i + 2, none⟩ (.int .u8 ((to : Int) / 256 % 256))).setCell ⟨g3, i + 3, none⟩ (.int .u8 ((to : Int) % 256))).ownsRow w2.heap.size 5 1 (.slice (some ⟨g3, 0, none⟩) N c3) N (B8 (put2 ps (i + 2) (to % 65536)))) := hO
    replace hF : Fr [] w ((w7.setCell ⟨g3, i + 2, none⟩ (.int .u8 ((to : Int) / 256 % 256))).setCell ⟨g3, i + 3, none⟩ (.int .u8 ((to : Int) % 256))) := (hF.setCell (.inr hg3') _).setCell (.inr hg3') _
    have hFs : Fr [g3] w7 ((w7.setCell ⟨g3, i + 2, none⟩ (.int .u8 ((to : Int) / 256 % 256))).setCell ⟨g3, i + 3, none⟩ (.int .u8 ((to : Int) % 256))) := ((Fr.refl _ _).setCell (.inl (by simp)) _).setCell (.inl (by simp)) _
    have hr7 := hr6.fr hFs (by intro ad e; injection e with e; subst e; simpa using hgg)
    have hv3 : IntKind.u8.wrap ((to : Int) / 256) = (to : Int) / 256 % 256 := u8_mod
    have hv4 : IntKind.u8.wrap (to : Int) = (to : Int) % 256 := u8_mod
    clear hO hfz hx2 hy2 ho5 hr6 hFs
    go_wp2_with fail
    generalize (w7.setCell ⟨g3, i + 2, none⟩ (.int .u8 ((to : Int) / 256 % 256))).setCell ⟨g3, i + 3, none⟩ (.int .u8 ((to : Int) % 256)) = w8 at HO2 hr7 hF ⊢
    refine (of_any (some ⟨g, 0, none⟩) N cc bs w8 HBL.out hr7 (by omega)).mono ?_
    rintro e w9 ⟨rfl, hF9⟩
    replace hF := hF.trans hF9
    have ho9 := hF9.own HO2.out (by simp)
    clear HO2 hF9 hr7 hd3 hd4 hf3 hf4
    go_wp2_with fail
    refine (update32_any (65535 - fold (wsum bs)) old to w9 hc0 hold2 hto).mono ?_
    rintro e w10 ⟨rfl, hF10⟩
    replace hF := hF.trans hF10
    replace ho9 := hF10.own ho9 (by simp)
    have HQL : Hid ((put2 ps (i + 2) (to % 65536)).length = N) := by show _ = _; rw [put2_length (by rw [HPL.out]; omega), HPL.out]
    generalize put2 ps (i + 2) (to % 65536) = qs at ho9 HU2 HQL
    generalize upd32 (65535 - fold (wsum bs)) old to = up2 at HU2
    clear hF10
    go_wp2_with fail
    by_cases hz2 : wsum qs = 0
    · refine (nonzero_is HQL.out (Rd.own ho9) (by omega) (b := false) (by simpa using hz2)).mono ?_
      rintro e w' ⟨rfl, rfl⟩
      clear hz2
      go_wp2_with fail
      go_ret
      exact ⟨rfl, hF⟩
    · have hOf2 := of_any (some ⟨g3, 0, none⟩) N c3 qs w10 HQL.out (Rd.own ho9) (by omega)
      rw [← HU2.out hz2] at hOf2
      refine (nonzero_is HQL.out (Rd.own ho9) (by omega) (b := true) (by simpa using hz2)).mono ?_
      rintro e w' ⟨rfl, rfl⟩
      clear hz2
      go_wp2_with fail
      refine hOf2.mono ?_
      clear hOf2
      rintro e w11 ⟨rfl, hF11⟩
      go_wp2_with fail
      go_ret
      exact ⟨rfl, hF.trans hF11⟩
end Go.Proofs.Ytdkpmbefnfdbkaa
