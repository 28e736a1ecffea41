/- The words of some bytes: the range function, and Sum over it. -/
import Derived.Test.YtjpcfphmejenoaaCs
import Derived.Test.YtjpcfphmejenoaaStin
namespace Go.Proofs.Ytjpcfphmejenoaa
open Go.RowKit Go.Shelf

attribute [local go_sem] Oper.semAt_some

theorem or16 (x y : UInt8) {A B : Int} (hA : A = x.toNat * 256) (hB : B = y.toNat) : bits BinOp.or IntKind.u16 A B = (256 * x.toNat + y.toNat : Nat) := by
  have hx := x.toNat_lt
  have hy := y.toNat_lt
  rw [show A = ((x.toNat * 256 : Nat) : Int) by omega, show B = ((y.toNat : Nat) : Int) by omega, u16_or_nat _ _ (by omega) (by omega), nat_join 8 _ _ (by omega) (by omega)]
  omega

theorem words_in (n : Nat) (a : Option Addr) (len cap : Nat) (w : World) :
    CallsIn Fence.wide n Try.prog 40 #[.slice a len cap] w fun e w' => e = .returned (.func (.func 53) #[] #[.pointer (some ⟨w.heap.size, 0, none⟩)]) ∧ w' = w.alloc (.cells #[.slice a len cap] 23) := by
  refine callsIn_of_wp Try.func40 rfl trivial ?_ rfl
  simp only [Try.ntmps40, List.size_toArray, List.length_cons, List.length_nil, Nat.reduceAdd, Nat.reduceSub, Array.replicate_succ, Array.replicate_zero, List.push_toArray, List.append_toArray, List.nil_append, List.cons_append]
  gi_wp2
  go_ret
  exact ⟨rfl, rfl⟩

theorem pairs_prefix {xs : List UInt8} {k : Nat} (hk : k % 2 = 0) : pairs (xs.take k) <+: pairs xs := by
  rcases Nat.lt_or_ge xs.length k with h | h
  · rw [List.take_of_length_le (by omega)]; exact List.prefix_refl _
  · refine ⟨pairs (xs.drop k), ?_⟩
    rw [← pairs_append _ _ (by rw [List.length_take]; omega), List.take_append_drop]

/-- What a round is given: a word as a pair of bytes. -/
def encW (p : UInt8 × UInt8) : Array Value := #[.int .u16 (wv p : Nat)]

theorem cell_far {g h : Nat} (w : World) (u : Value) (hne : g ≠ h) {i o : Nat} : (w.setCell ⟨g, i, none⟩ u).cell? ⟨h, o, none⟩ = w.cell? ⟨h, o, none⟩ :=
  World.cell?_of_block (Below.heap_setCell _ _ _ _ (fun e => hne (by simpa using e.symm)))
theorem rd_below {w w' : World} {B : Nat} {A : Option Addr} {xs : List UInt8} (h : Rd w A (B8 xs)) (hf : Below B w w') (hd : ∀ ad, A = some ad → 0 < xs.length → ad.block < B) : Rd w' A (B8 xs) := fun j u hu => by
  obtain ⟨ad, e, hc⟩ := h j u hu
  have hx : 0 < xs.length := by
    cases xs with
    | nil => simp [B8] at hu
    | cons => simp
  exact ⟨ad, e, (hf.cell (by rw [add_block]; exact hd ad e hx)).trans hc⟩
theorem rd_lt {w : World} {A : Option Addr} {xs : List UInt8} (h : Rd w A (B8 xs)) : ∀ ad, A = some ad → 0 < xs.length → ad.block < w.heap.size := fun ad e hx => by
  obtain ⟨ad', e', hc⟩ := h 0 _ (List.getElem?_eq_getElem (by rw [B8_length]; exact hx))
  rw [e] at e'
  injection e' with e'
  subst e'
  have := World.block_lt_of_cell? w _ hc
  rwa [add_block] at this

/-- What a round keeps: all that lay below n₀, and the box of the bytes. -/
def KpW (n₀ Bs : Nat) (W W' : World) : Prop := Below n₀ W W' ∧ ∀ v, W.cell? ⟨Bs, 0, none⟩ = some v → W'.cell? ⟨Bs, 0, none⟩ = some v
theorem kpW_t {n₀ Bs : Nat} {A B C : World} (h : KpW n₀ Bs A B) (k : KpW n₀ Bs B C) : KpW n₀ Bs A C := ⟨h.1.trans k.1, fun v hv => k.2 v (h.2 v hv)⟩
theorem kpW_b {n₀ Bs : Nat} {w : World} (hn : n₀ ≤ w.heap.size) (W : World) (l : Nat) (o o' : Obj) (hl : w.heap.size ≤ l) (h : W.heap[l]? = some o) (h1 : o.isCells = false) (h2 : o.isWalk = false) : KpW n₀ Bs W (W.putObj l o') :=
  ⟨belowK_b hn W l o o' hl h h1 h2, fun _ hv => cell_kept hv (grownBy_putObj' W l o') (fun r e => by cases e; exact ⟨o, h, h1⟩)⟩
theorem KpW.refl (n₀ Bs : Nat) (W : World) : KpW n₀ Bs W W := ⟨Below.refl _ _, fun _ h => h⟩
theorem KpW.drewN {n₀ Bs : Nat} {W W' : World} (h : KpW n₀ Bs W W') (k : Nat) : KpW n₀ Bs W (W'.drewN k) := ⟨⟨h.1.os, h.1.tape, h.1.output, h.1.size, h.1.block⟩, fun v hv => h.2 v hv⟩

set_option maxRecDepth 100000 in
set_option maxHeartbeats 4000000 in
theorem words1_in (n l Bs n₀ len cap : Nat) (A : Option Addr) (xs : List UInt8) (hreach : len ≤ 140737488351232) (hl : xs.length = len) (hn : 1 ≤ n) (hb : ∀ ad, A = some ad → 0 < len → ad.block < n₀) (J Jx : List (UInt8 × UInt8) → World → Prop)
    (hY : ∀ pre x W, J pre W → pre.length < (len + 1) / 2 → YieldAt Fence.wide (n - 1) Try.prog l (encW x) W fun e W' =>
      (e = .returned (.bool true) ∧ J (pre ++ [x]) W' ∧ KpW n₀ Bs W W') ∨ (e = .returned (.bool false) ∧ Jx (pre ++ [x]) W'))
    (hJ : ∀ pre W k, J pre W → J pre (W.drewN k))
    (W : World) (hBs : W.cell? ⟨Bs, 0, none⟩ = some (.slice A len cap)) (hrd : Rd W A (B8 xs)) (h0 : J [] W) :
    CallsIn Fence.wide n Try.prog 53 #[.func (.yield l) #[] #[], .pointer (some ⟨Bs, 0, none⟩)] W fun e W' => (∃ v, e = .returned v) ∧
      ((∃ ys, ys = pairs xs ∧ J ys W') ∨ (∃ pre, pre <+: pairs xs ∧ Jx pre W')) := by
  have Hl := Lib.hid hl
  clear hl
  refine callsIn_of_wp Try.func53 rfl trivial ?_ rfl
  simp only [Try.ntmps53, List.size_toArray, List.length_cons, List.length_nil, Nat.reduceAdd, Nat.reduceSub, Array.replicate_succ, Array.replicate_zero, List.push_toArray, List.append_toArray, List.nil_append, List.cons_append]
  gi_wp2
  gi_loopw [3] (fun i wr => ∃ k : Nat, k ≤ len ∧ k % 2 = 0 ∧ i = .int .i64 k ∧ J (pairs (xs.take k)) wr ∧ KpW n₀ Bs W wr)
    (fun i _ => len - (intOf i).toNat)
  case atStart => exact ⟨0, Nat.zero_le _, rfl, rfl, h0, KpW.refl _ _ _⟩
  case round =>
    obtain ⟨k, hk, hk2, rfl, hJs, hnx⟩ := hrel
    have hsl : wr.cell? ⟨Bs, 0, none⟩ = some (.slice A len cap) := hnx.2 _ hBs
    have hw1 : IntKind.i64.wrap ((len : Int) - 1) = (len : Int) - 1 := IntWalk.i64_in _ (by omega)
    by_cases hlt : k + 1 < len
    · have hkx : k < xs.length := by have := Hl.out; omega
      have hky : k + 1 < xs.length := by have := Hl.out; omega
      obtain ⟨b, o, rfl⟩ := rd_addr hrd (by rw [B8_length]; omega)
      have hbn : b < n₀ := hb _ rfl (by omega)
      obtain ⟨x, hx0⟩ : ∃ x, xs[k]? = some x := ⟨_, List.getElem?_eq_getElem hkx⟩
      obtain ⟨y, hy0⟩ : ∃ y, xs[k + 1]? = some y := ⟨_, List.getElem?_eq_getElem hky⟩
      have hc1 : wr.cell? ⟨b, o + k, none⟩ = some (.int .u8 x.toNat) := (hnx.1.cell (p := ⟨b, o + k, none⟩) hbn).trans (rdj hrd k x hx0)
      have hc2 : wr.cell? ⟨b, o + (k + 1), none⟩ = some (.int .u8 y.toNat) := (hnx.1.cell (p := ⟨b, o + (k + 1), none⟩) hbn).trans (rdj hrd (k + 1) y hy0)
      have HS := Lib.hid (pairs_two hk2 hx0 hy0)
      have hpl : (pairs (xs.take k)).length < (len + 1) / 2 := by rw [pairs_length, List.length_take]; omega
      obtain ⟨fn, tmps, assign, body, hy, hR⟩ := hY _ (x, y) (wr.drewN 1) (hJ _ _ 1 hJs) hpl
      have hor : bits BinOp.or IntKind.u16 ((x.toNat : Int) * 256) (y.toNat : Int) = (wv (x, y) : Nat) := or16 x y rfl rfl
      have hxl : (x.toNat : Int) < 256 := by have := x.toNat_lt; omega
      have hyl : (y.toNat : Int) < 256 := by have := y.toNat_lt; omega
      have hwx : IntKind.u16.wrap (x.toNat : Int) = (x.toNat : Int) := u16_in (by omega) (by omega)
      have hwx2 : IntKind.u16.wrap ((x.toNat : Int) * 256) = (x.toNat : Int) * 256 := u16_in (by omega) (by omega)
      have hwy : IntKind.u16.wrap (y.toNat : Int) = (y.toNat : Int) := u16_in (by omega) (by omega)
      have hd : decide ((k : Int) < (len : Int) - 1) = true := by simp; omega
      have hi0 : (0 : Int) ≤ (k : Int) ∧ (k : Int) < (len : Int) := by omega
      have hi2 : (0 : Int) ≤ (k : Int) + 1 ∧ (k : Int) + 1 < (len : Int) := by omega
      have hi3 : ((k : Int) + 1).toNat = k + 1 := by omega
      have hi1 : IntKind.i64.wrap ((k : Int) + 1) = (k : Int) + 1 := IntWalk.i64_in _ (by omega)
      unfold encW at hy
      clear hrd hpl hx0 hy0 hY
      gi_wp2
      refine wpInW_region_still_tail 14 (by kernel_rfl) (by kernel_rfl) ?_
      simp only [List.take_succ_cons, List.take_zero, List.drop_succ_cons, List.drop_zero]
      repeat still_step
      refine wpStill_nil ?_
      change wpListIn _ _ _ _ _ _ _ (World.drewN wr 1)
      gi_wp2
      refine hR.mono ?_
      rintro e W3 (⟨rfl, hJ3, hk3⟩ | ⟨rfl, hJx3⟩)
      · have hwr : KpW n₀ Bs W W3 := kpW_t (hnx.drewN 1) hk3
        have hi4 : IntKind.i64.wrap ((k : Int) + 2) = (k : Int) + 2 := IntWalk.i64_in _ (by omega)
        gi_wp2
        go_roundw
        case rel => exact ⟨k + 2, by omega, by omega, by go_num, by rw [HS.out]; exact hJ3, hwr⟩
        case measure => simp [intOf]; omega
      · gi_wp2
        refine bodyPost_ret (results_none rfl _ _ _) rfl ?_
        exact ⟨⟨_, rfl⟩, .inr ⟨_, by rw [← HS.out]; exact pairs_prefix (by omega), hJx3⟩⟩
    · have hd : decide ((k : Int) < (len : Int) - 1) = false := by simp; omega
      by_cases hodd : len % 2 = 1
      · obtain rfl : len = k + 1 := by omega
        have hkx : k < xs.length := by have := Hl.out; omega
        obtain ⟨b, o, rfl⟩ := rd_addr hrd (by rw [B8_length]; omega)
        have hbn : b < n₀ := hb _ rfl (by omega)
        obtain ⟨x, hx0⟩ : ∃ x, xs[k]? = some x := ⟨_, List.getElem?_eq_getElem hkx⟩
        have hc1 : wr.cell? ⟨b, o + k, none⟩ = some (.int .u8 x.toNat) := (hnx.1.cell (p := ⟨b, o + k, none⟩) hbn).trans (rdj hrd k x hx0)
        have HS : Hid (pairs xs = pairs (xs.take k) ++ [(x, 0)]) := by
          have h := pairs_one hk2 hx0
          rw [List.take_of_length_le (by rw [Hl.out]; exact Nat.le_refl _)] at h
          exact h
        have hpl : (pairs (xs.take k)).length < (k + 1 + 1) / 2 := by rw [pairs_length, List.length_take]; omega
        obtain ⟨fn, tmps, assign, body, hy, hR⟩ := hY _ (x, 0) wr hJs hpl
        have hwv : ((wv (x, 0) : Nat) : Int) = (x.toNat : Int) * 256 := by simp [wv]; omega
        have hm : Int.tmod ((k : Int) + 1) 2 = 1 := by rw [Int.tmod_eq_emod_of_nonneg (by omega)]; omega
        have hxl : (x.toNat : Int) < 256 := by have := x.toNat_lt; omega
        unfold encW at hy
        rw [hwv] at hy
        clear hwv hrd hpl hx0 hY
        gi_wp2
        refine hR.mono ?_
        rintro e W3 (⟨rfl, hJ3, -⟩ | ⟨rfl, hJx3⟩)
        · gi_wp2
          go_end0
          exact ⟨⟨_, rfl⟩, .inl ⟨_, HS.out.symm, hJ3⟩⟩
        · gi_wp2
          go_end0
          exact ⟨⟨_, rfl⟩, .inr ⟨_, by rw [← HS.out]; exact List.prefix_refl _, hJx3⟩⟩
      · obtain rfl : k = len := by omega
        have hm : Int.tmod (k : Int) 2 = 0 := by rw [Int.tmod_eq_emod_of_nonneg (by omega)]; omega
        have htk : xs.take k = xs := List.take_of_length_le (by rw [Hl.out]; exact Nat.le_refl _)
        rw [htk] at hJs
        clear htk
        gi_wp2
        go_end0
        exact ⟨⟨_, rfl⟩, .inl ⟨_, rfl, hJs⟩⟩

theorem words_stops (n : Nat) (hn : 1 ≤ n) (Bs n₀ len cap : Nat) (A : Option Addr) (xs : List UInt8) (hreach : len ≤ 140737488351232) (hl : xs.length = len) (hb : ∀ ad, A = some ad → 0 < len → ad.block < n₀) (w : World)
    (hBs : Bs < w.heap.size) (hn₀ : n₀ ≤ w.heap.size) (hc : w.cell? ⟨Bs, 0, none⟩ = some (.slice A len cap)) (hrd : Rd w A (B8 xs)) :
    SeqStopsK Fence.wide n Try.prog 53 #[.pointer (some ⟨Bs, 0, none⟩)] encW (KpW n₀ Bs) (fun ys => ys = pairs xs) (fun pre => pre <+: pairs xs) ((len + 1) / 2) w := fun l J Jx W hW hJ _ hY h0 => by
  have hc' := (hW.cell (p := ⟨Bs, 0, none⟩) hBs).trans hc
  exact words1_in n l Bs n₀ len cap A xs hreach hl hn hb J Jx hY (fun pre W1 k h => hJ pre W1 _ none h ⟨rfl, rfl, rfl, Nat.le_refl _, fun _ _ _ => rfl⟩ (by simp)) W hc' (rd_below hrd hW fun ad e h => by have := hb ad e (by rw [← hl]; exact h); omega) h0

set_option maxRecDepth 100000 in
set_option maxHeartbeats 4000000 in
theorem sum_in (A : Option Addr) (len cap : Nat) (xs : List UInt8) (w : World) (hl : xs.length = len) (hrd : Rd w A (B8 xs)) (hb : ∀ ad, A = some ad → 0 < len → ad.block < w.heap.size) (hreach : len ≤ 140737488351232) :
    CallsIn Fence.wide 5 Try.prog 27 #[.slice A len cap] w fun e W' => e = .returned (.int .u16 (fold (wsum xs))) ∧ Below w.heap.size w W' := by
  refine callsIn_of_wp_marks Try.func27 rfl trivial ?_ rfl
  simp only [Try.ntmps27, List.size_toArray, List.length_cons, List.length_nil, Nat.reduceAdd, Nat.reduceSub, Array.replicate_succ, Array.replicate_zero, List.push_toArray, List.append_toArray, List.nil_append, List.cons_append]
  gi_wp2_with (refine ⟨trivial, ?_⟩; refine (words_in _ _ _ _ _).mono ?_; rintro e w' ⟨rfl, rfl⟩)
  have bS := Boxed.new w 65 (.int .u64 0)
  have bN := Boxed.new (w.alloc (.cells #[.int .u64 0] 65)) 23 (.slice A len cap)
  rw [World.size_alloc] at bN
  have hB0 : Below w.heap.size w ((w.alloc (.cells #[.int .u64 0] 65)).alloc (.cells #[.slice A len cap] 23)) := ((Below.refl _ w).alloc (Nat.le_refl _) _).alloc (by simp) _
  have Hl := Lib.hid hl
  have hlen := hl
  clear hl
  refine wpIn_rangeFunc_ownG rfl (by decide) (gf := 53) (lb := #[.pointer (some ⟨w.heap.size + 1, 0, none⟩)]) rfl trivial (enters_of Try.func53 (by kernel_rfl) rfl)
    (words_stops 4 (by decide) (w.heap.size + 1) w.heap.size len cap A xs hreach hlen hb _ (by simp) (by simp; omega) bN.cell (rd_below hrd hB0 fun ad e h => hb ad e (by rw [← hlen]; exact h))) kpW_t (kpW_b (by simp; omega)) (Below.refl _ _) (fun _ => rfl)
    (fun pre W => (W.cell? ⟨w.heap.size, 0, none⟩ = some (.int .u64 (psum pre)) ∧ W.frozen? ⟨w.heap.size, 0, none⟩ = false) ∧ Below w.heap.size w W)
    (fun _ _ _ => False)
    (OwnFrom.and (Own.from (fun s A B row hs hg hr => ⟨cell_kept hs.1 hg hr, (frozen_kept hs.1 hg hr).trans hs.2⟩) _) (ownFrom_below (Nat.le_refl _) (by simp; omega)))
    (fun _ _ _ _ _ hs _ _ => hs)
    ⟨⟨(bS.alloc _).cell, (bS.alloc _).frozen⟩, hB0⟩
    (fun x : UInt8 × UInt8 => { tmps := #[.slice A len cap, undef, .int .u16 0, .pointer (some ⟨w.heap.size, 0, none⟩), .int .u16 (wv x : Nat), .slice A len cap, .func (.func 53) #[] #[.pointer (some ⟨w.heap.size + 1, 0, none⟩)], .int .u16 (wv x : Nat), undef, undef, undef, undef, undef, undef], defers := [] }) ?assign ?body ?done ?stop
  case assign =>
    intro l x W K hK
    unfold encW
    gi_wp2
    exact hK
  case body =>
    rintro l pre x W ⟨⟨hc, hf⟩, hB⟩ hpl
    have hps := psum_le pre
    have hwv := wv_lt x
    have HN := Lib.hid (psum_snoc pre x)
    have hw1 : IntKind.u64.wrap ((wv x : Nat) : Int) = (wv x : Nat) := u64_in (by omega) (by omega)
    have hw2 : IntKind.u64.wrap ((psum pre : Nat) + (wv x : Nat) : Int) = (psum pre : Nat) + (wv x : Nat) := u64_in (by omega) (by omega)
    gi_wp2
    exact ⟨(KeepsOthers.setCell _ _ _).from _, ⟨(Below.refl w.heap.size W).setCell (p := ⟨w.heap.size, 0, none⟩) (Nat.le_refl _) _, fun v hv => (cell_far _ _ (by omega)).trans hv⟩, ⟨by rw [HN.out]; exact World.cell?_setCell_same' _ _ _ (by rw [hc]; rfl), by rw [World.frozen?_setCell]; exact hf⟩, hB.setCell (p := ⟨w.heap.size, 0, none⟩) (Nat.le_refl _) _⟩
  case done =>
    rintro D ys W hD rfl ⟨⟨hc, _⟩, hB⟩ hK
    have hps := psum_le (pairs xs)
    have hpl := pairs_length xs
    have hxl := Hl.out
    gi_wp2_with (refine ⟨trivial, ?_⟩; refine (callsIn_wide.2 (fold_any _ (by omega) _)).mono ?_; rintro e w' ⟨rfl, rfl⟩)
    refine ⟨by simp, .inl ⟨_, _, rfl, run_takeDeferred hK, ?_⟩⟩
    exact ⟨_, results_tmp rfl _ _ _, by rw [psum_pairs]; rfl, hB.trans (belowK_b (w := w) (Nat.le_refl _) W D _ _ (by simp at hD; omega) hK rfl rfl)⟩
  case stop =>
    rintro D c pre W _ _ h _
    exact h.elim

/-- Sum, of bytes that read as given. -/
theorem sum_any (A : Option Addr) (n c : Nat) (xs : List UInt8) (w : World) (hl : xs.length = n) (hrd : Rd w A (B8 xs)) (hreach : n ≤ 140737488351232) :
    Calls Try.prog 27 #[.slice A n c] w fun e w' => e = .returned (.int .u16 (fold (wsum xs))) ∧ Fr [] w w' :=
  (callsIn_wide.1 (sum_in A n c xs w hl hrd (fun ad e h => rd_lt hrd ad e (by rw [hl]; exact h)) hreach)).mono fun _ _ h => ⟨h.1, Fr.ofBelow h.2⟩
end Go.Proofs.Ytjpcfphmejenoaa
