/- OptsRecords. -/
import Derived.Test.YtekhjpiopbkoaaaOmw
import Derived.Test.YtekhjpiopbkoaaaOrq
import Derived.Deep.DeepCutAuto
namespace Go.Proofs.Ytekhjpiopbkoaaa
open Go.RowKit
set_option linter.unusedVariables false
set_option maxRecDepth 100000

def U32 (l : List Nat) : List Value := l.map fun x => .int .u32 (x : Nat)
theorem U32_get {l : List Nat} {j x : Nat} (h : l[j]? = some x) : (U32 l)[j]? = some (.int .u32 (x : Nat)) := by simp [U32, h]
theorem one_opt {l : List Opt} {p : Nat × List UInt8} (h : l.map pr = [p]) : ∃ a, l = [a] ∧ pr a = p := by
  match l, h with
  | [a], h => simp at h; exact ⟨a, rfl, h⟩
theorem rdsm_one {w : World} {b k m u : Nat} {bs : List UInt8} {n : Nat} (hk : k < 256) (hm : m < 256) (hu : u < 256) (hl : bs.length = n) (hn : n ≤ 1000) (t1 t2 : TypeId) (Kv : Int) (hK : Kv = (k : Int)) :
    RdSm ((w.alloc (.cells (B8 bs).toArray t1)).alloc (.cells #[.int .u8 Kv, .int .u8 m, .int .u8 u, .slice (some ⟨w.heap.size, 0, none⟩) n n] t2)) (some ⟨w.heap.size + 1, 0, none⟩) [⟨k, m, u, some ⟨w.heap.size, 0, none⟩, n, n, bs⟩] := fun i x hi => by
  subst hK
  have h0 : ∀ j v, (#[Value.int .u8 k, .int .u8 m, .int .u8 u, .slice (some ⟨w.heap.size, 0, none⟩) n n] : Array Value)[j]? = some v → ((w.alloc (.cells (B8 bs).toArray t1)).alloc (.cells #[.int .u8 k, .int .u8 m, .int .u8 u, .slice (some ⟨w.heap.size, 0, none⟩) n n] t2)).cell? ⟨w.heap.size + 1, j, none⟩ = some v := fun j v hv => by
    have := new_cell (w.alloc (.cells (B8 bs).toArray t1)) #[.int .u8 k, .int .u8 m, .int .u8 u, .slice (some ⟨w.heap.size, 0, none⟩) n n] t2 j v hv
    rw [World.size_alloc] at this
    exact this
  match i, hi with
  | 0, hi =>
    simp only [List.getElem?_cons_zero, Option.some.injEq] at hi
    subst hi
    refine ⟨w.heap.size + 1, 0, rfl, ?_, ?_, ?_, ?_, ?_⟩
    · exact h0 0 _ rfl
    · exact h0 1 _ rfl
    · exact h0 2 _ rfl
    · exact h0 3 _ rfl
    · exact ⟨(rd_new w bs t1).fr ((Fr.refl [] _).alloc _) (by simp), hl, by show n ≤ _; omega, hk, hm, hu⟩
  | i + 1, hi => simp at hi
theorem own_capR {w : World} {B n c s : Nat} {A : Option Addr} {e : TypeId} {xs : List Value} (h : w.ownsRow B e s (.slice A n c) n xs) : n ≤ c ∧ c ≤ 9223372036854775807 := by
  obtain ⟨A', c', hv, h1, h2, _⟩ := own_slice h
  injection hv with _ _ h3
  subst h3
  simp only [maxLen] at h2
  exact ⟨h1, by omega⟩
theorem kind_three {k : Nat} (h : k < 256) (x : SmO) (hx : x.k = 1 + k % 3) : mkK x = 7 ∨ mkK x = 131 ∨ mkK x = 137 := by
  unfold mkK
  rw [hx]
  have h3 : k % 3 < 3 := Nat.mod_lt _ (by decide)
  generalize k % 3 = j at h3
  match j, h3 with
  | 0, _ => left; rfl
  | 1, _ => right; left; rfl
  | 2, _ => right; right; rfl
/-- What is known between two rounds: the box of the option, with i addresses done. -/
structure RcS (w8 : World) (bo K n k : Nat) (D0 : List UInt8) (i : Nat) (D : List UInt8) (A : Option Addr) (c : Nat) (W : World) : Prop where
  fr : Fr [bo] w8 W
  box : W.heap[bo]? = some (.cells #[.int .u8 K, .slice A (1 + 4 * n) c] 35 (0, 0))
  rd : Rd W A (B8 D)
  ne : ∀ ad, A = some ad → ad.block ≠ bo
  d : RD n i D
  old : ∀ j, j < k → aN D j = aN D0 j
  nxt : ∀ j, i ≤ j → aN D j = aN D0 j
set_option maxHeartbeats 4000000 in
theorem optsRecords_any (kd m u : Nat) (A : Option Addr) (na c : Nat) (ads : List Nat) (w : World) (hkd : kd < 256) (hm : m < 256) (hu : u < 256) (hl : ads.length = na) (hb : ∀ x ∈ ads, x < 4294967296) (hrd : Rd w A (U32 ads)) (hna : na ≤ 9223372036854775807) :
    Calls Try.prog 5 #[.int .u8 kd, .int .u8 m, .int .u8 u, .slice A na c] w fun e w' => e = .returned (.bool true) ∧ Fr [] w w' := by
  have cA := awake6 w
  have HRD := Lib.hid hrd
  have HL := Lib.hid hl
  have HB := Lib.hid hb
  clear hrd hl hb
  go_enter Try.func5, Try.ntmps5
  go_wp2_with fail
  refine cA.mono ?_
  rintro e wa ⟨rfl, hFa⟩
  clear cA
  go_wp2_with fail
  have hRS := rdsm_one (w := wa) (b := 0) (k := 1 + kd % 3) (m := m) (u := u) (bs := [4, 192, 0, 2, 77]) (n := 5) (by omega) hm hu rfl (by decide) 5 41 (1 + (kd : Int) % 3) (by omega)
  have hFw := hFa.trans ((((Fr.refl [] wa).alloc (.cells (B8 [4, 192, 0, 2, 77]).toArray 5)).alloc (.cells #[.int .u8 (1 + (kd : Int) % 3), .int .u8 m, .int .u8 u, .slice (some ⟨wa.heap.size, 0, none⟩) 5 5] 41)))
  have cM := made_any (some ⟨wa.heap.size + 1, 0, none⟩) 1 1 _ _ rfl (Nat.le_refl _) hRS
  refine cM.mono ?_
  clear cM hRS
  rintro e w1 ⟨os, A1, c1, rfl, ho1, hO1, hm1, hF1⟩
  obtain ⟨x, hx⟩ : ∃ x, x = (⟨1 + kd % 3, m, u, some ⟨wa.heap.size, 0, none⟩, 5, 5, [4, 192, 0, 2, 77]⟩ : SmO) := ⟨_, rfl⟩
  have ht : ([x] : List SmO).take 40 = [x] := rfl
  rw [← hx, ht] at hm1 ⊢
  have hK := kind_three hkd x (by rw [hx])
  have hD0 := mk_RD hK
  have hxm : x.m = m := by rw [hx]
  have hxu : x.u = u := by rw [hx]
  rw [hxm, hxu] at hD0
  rw [mkAll_one hK] at hm1
  generalize mkAll [x] = st
  obtain ⟨o, rfl, hp⟩ := one_opt hm1
  obtain ⟨b, off, hA1, q0, q1, hok⟩ := (hO1.rd ho1) 0 o rfl
  have hoo := hO1.own o (by simp)
  have hol := hO1.len o (by simp)
  unfold pr at hp
  injection hp with hp1 hp2
  rw [← hp1] at hK
  rw [← hp2] at hD0
  clear hp1 hp2 hx ht hm1
  obtain ⟨K, Ao, no, co, D⟩ := o
  simp only at hK hD0 q0 q1 hoo hol
  unfold opO at hoo
  simp only at hoo
  obtain ⟨n, hn⟩ : ∃ n, n = m % 10 := ⟨_, rfl⟩
  obtain ⟨k, hk⟩ : ∃ k, k = u % (n + 1) := ⟨_, rfl⟩
  rw [← hn, ← hk] at hD0
  have hno : no = 1 + 4 * n := by rw [← hol.1]; exact hD0.len
  subst hno
  obtain ⟨g, cc, hv, hg, hnc, hcm⟩ := own_some hoo (by omega)
  injection hv with hv1 hv2 hv3
  subst hv1 hv3
  rw [Nat.zero_mul, Nat.add_zero] at q0 q1
  subst hA1
  rw [show ([⟨K, some ⟨g, 0, none⟩, 1 + 4 * n, co, D⟩] : List Opt).length = 1 from rfl] at ho1 ⊢
  have hk9 := hD0.n9
  have hkn := hD0.le
  have t1 : (m : Int).tmod 10 = (n : Int) := by rw [Int.tmod_eq_emod_of_nonneg (by omega)]; omega
  have t1' : (m : Int) % 10 = (n : Int) := by omega
  have t2 : (u : Int).tmod ((n : Int) + 1) = (k : Int) := by rw [Int.tmod_eq_emod_of_nonneg (by omega), hk]; push_cast; rfl
  have t2' : (u : Int) % ((n : Int) + 1) = (k : Int) := by rw [hk]; push_cast; rfl
  have w1n : IntKind.i64.wrap ((n : Int) + 1) = (n : Int) + 1 := IntWalk.i64_in _ (by omega)
  have n0 : ¬ ((n : Int) + 1 = 0) := by omega
  have hc1 : 1 ≤ c1 := by obtain ⟨_, _, hv, h, _⟩ := own_slice ho1; injection hv with _ _ h3; omega
  have cR := fun W (hW : Fr [] w1 W) => route_go K g 0 (1 + 4 * n) co D k (n - k) W hD0.len ((Rd.own hoo).fr hW (by simp)) hnc hcm (by omega) (by omega) (hD0.right hK) hD0.ptr (by omega)
  unfold OV at cR
  have CR := Lib.hid cR
  have HF1 := Lib.hid (hFw.trans hF1)
  have HOO := Lib.hid hoo
  have HD0 := Lib.hid hD0
  have HK := Lib.hid hK
  have HN := Lib.hid hn
  have HKK := Lib.hid hk
  clear cR hoo ho1 hO1 hF1 hFw hFa hok hD0 hK hn hk hol hg hv2
  go_wp2_with fail
  go_quiet (fail)
  go_wp2_with fail
  have hd1 : Fr [] w1 (w1.drewN nq) := (Fr.refl _ _).drewN _
  refine (CR.out _ hd1).mono ?_
  rintro e w2 ⟨hF2, A3, c3, A4, c4, rfl, o3, o4, _⟩
  rw [C32_done] at o3
  rw [C32_left] at o4
  have q0' := hF2.cell (w := w1.drewN nq) (p := ⟨b, off, none⟩) (v := .int .u8 K) q0 (by simp)
  have q1' := hF2.cell (w := w1.drewN nq) (p := ⟨b, off + 1, none⟩) (v := .slice (some ⟨g, 0, none⟩) (1 + 4 * n) co) q1 (by simp)
  have HF2 := Lib.hid (HF1.out.trans (hd1.trans hF2))
  have HRD1 := Lib.hid ((Rd.own HOO.out).fr (hd1.trans hF2) (by simp))
  have HGL := Lib.hid (show g < w2.heap.size from Nat.lt_of_lt_of_le (HOO.out.lt g rfl).2 (hd1.trans hF2).size)
  have O3 := Lib.hid (Rd.own o3)
  have O4 := Lib.hid (Rd.own o4)
  have HB3 := Lib.hid (show ∀ ad, A3 = some ad → ad.block < w2.heap.size from fun ad h => by obtain ⟨_, _, hv, _, _, hb⟩ := own_slice o3; injection hv with hv; subst hv; exact (o3.lt _ (hb ad h)).2)
  have HB4 := Lib.hid (show ∀ ad, A4 = some ad → ad.block < w2.heap.size from fun ad h => by obtain ⟨_, _, hv, _, _, hb⟩ := own_slice o4; injection hv with hv; subst hv; exact (o4.lt _ (hb ad h)).2)
  have c3k : k ≤ c3 := (own_capR o3).1
  have c4k : n - k ≤ c4 := (own_capR o4).1
  have wnk : IntKind.i64.wrap ((n : Int) - (k : Int)) = ((n - k : Nat) : Int) := by rw [IntWalk.i64_in _ (by omega)]; omega
  clear o3 o4 hF2 hd1 CR HF1 HOO q0 q1 t1 t1' t2 t2' w1n n0
  obtain ⟨q, hq⟩ : ∃ q, q = n - k := ⟨_, rfl⟩
  rw [← hq] at wnk O4 c4k ⊢
  have HQ := Lib.hid hq
  clear hq
  go_wp2_with fail
  have hbx : (w2.alloc (.cells #[.int .u8 K, .slice (some ⟨g, 0, none⟩) (1 + 4 * n) co] 35)).heap[w2.heap.size]? = some (.cells #[.int .u8 K, .slice (some ⟨g, 0, none⟩) (1 + 4 * n) co] 35 (0, 0)) := heap_alloc_new _ _
  have hF8 : Fr [] w2 (w2.alloc (.cells #[.int .u8 K, .slice (some ⟨g, 0, none⟩) (1 + 4 * n) co] 35)) := (Fr.refl _ _).alloc _
  have hs8 : (w2.alloc (.cells #[.int .u8 K, .slice (some ⟨g, 0, none⟩) (1 + 4 * n) co] 35)).heap.size = w2.heap.size + 1 := by simp
  obtain ⟨bo, hbo⟩ : ∃ bo, bo = w2.heap.size := ⟨_, rfl⟩
  have hS0 : RcS (w2.alloc (.cells #[.int .u8 K, .slice (some ⟨g, 0, none⟩) (1 + 4 * n) co] 35)) bo K n k D k D (some ⟨g, 0, none⟩) co (w2.alloc (.cells #[.int .u8 K, .slice (some ⟨g, 0, none⟩) (1 + 4 * n) co] 35)) := by
    refine ⟨Fr.refl _ _, by rw [hbo]; exact hbx, HRD1.out.fr hF8 (by simp), ?_, HD0.out, fun _ _ => rfl, fun _ _ => rfl⟩
    intro ad h; injection h with h; subst h
    show g ≠ bo
    have := HGL.out
    omega
  have O3b := Lib.hid (O3.out.fr hF8 (by simp))
  have O4b := Lib.hid (O4.out.fr hF8 (by simp))
  have HF8 := Lib.hid (HF2.out.trans hF8)
  have HB3b := Lib.hid (show ∀ ad, A3 = some ad → ad.block ∉ [bo] from fun ad h => by have := HB3.out ad h; simp; omega)
  have HB4b := Lib.hid (show ∀ ad, A4 = some ad → ad.block ∉ [bo] from fun ad h => by have := HB4.out ad h; simp; omega)
  have HWL := Lib.hid (show w.heap.size ≤ bo from by rw [hbo]; exact HF2.out.size)
  rw [← hbo] at hs8 ⊢
  clear hbx hF8 O3 O4 HF2 HB3 HB4 HRD1 HGL q0' q1'
  generalize w2.alloc (.cells #[.int .u8 K, .slice (some ⟨g, 0, none⟩) (1 + 4 * n) co] 35) = w8 at hS0 O3b O4b HF8 hs8 ⊢
  clear hbo
  have HS8 := Lib.hid hs8
  have HS0 := Lib.hid hS0
  clear hs8 hS0
  go_loopw [17, 18, 19, 20, 21, 22, 23] (fun i _ _ _ _ _ _ wr => ∃ (j : Nat) (D' : List UInt8) (A' : Option Addr) (c' : Nat), k ≤ j ∧ j ≤ n ∧ i = .int .i64 j ∧ RcS w8 bo K n k D j D' A' c' wr) (fun i _ _ _ _ _ _ _ => n - (intOf i).toNat)
  case atStart => exact ⟨k, D, _, _, Nat.le_refl _, hkn, rfl, HS0.out⟩
  case round =>
    obtain ⟨j, D', A', c', hkj, hjn, rfl, hS⟩ := hrel
    have hsz := hS.fr.size
    have hfl : bo < wr.heap.size := by have := HS8.out; omega
    have q0 : wr.cell? ⟨bo, 0, none⟩ = some (.int .u8 K) := by have := hS.box; simp [World.cell?, this]
    have q1 : wr.cell? ⟨bo, 1, none⟩ = some (.slice A' (1 + 4 * n) c') := by have := hS.box; simp [World.cell?, this]
    have HKl : K < 256 := by have := HK.out; omega
    by_cases hlt : j < n
    by_cases hnz : na = 0
    · have hlti : (j : Int) < (n : Int) := by omega
      have wj1 : IntKind.i64.wrap ((j : Int) + 1) = (j : Int) + 1 := IntWalk.i64_in _ (by omega)
      have wk1 : IntKind.i64.wrap (1000 * (j : Int)) = 1000 * (j : Int) := IntWalk.i64_in _ (by omega)
      have wk2 : IntKind.u32.wrap (1000 * (j : Int)) = 1000 * (j : Int) := u32_in (by omega) (by omega)
      have d0 : decide ((0 : Int) < (na : Int)) = false := decide_eq_false (by omega)
      have d0' : ¬ (0 : Int) < (na : Int) := by omega
      obtain ⟨a, ha⟩ : ∃ a : Nat, 1000 * (j : Int) = (a : Int) := ⟨1000 * j, by omega⟩
      have hal : a < 4294967296 := by omega
      rw [ha] at wk1 wk2
      clear hnz
      have cRec := fun W (hW : Fr [] wr W) => record_go K A' (1 + 4 * n) c' D' a (1 + 4 * j) W hS.d.len (hS.rd.fr hW (by simp)) (by omega) (by omega) HKl hal (hS.d.right HK.out) (by rw [hS.d.ptr]; omega) (by omega)
      unfold OV at cRec
      have CREC := Lib.hid cRec
      have HSS := Lib.hid hS
      clear cRec hS
      go_wp2_with fail
      refine (CREC.out _ (Fr.refl _ _)).mono ?_
      rintro e w5 ⟨A5, c5, rfl, o5, hF5⟩
      have hst := HSS.out.d.step (a := a) hlt
      obtain ⟨D5, hD5⟩ : ∃ D5, D5 = recD D' (1 + 4 * j) a := ⟨_, rfl⟩
      have haN : ∀ t, aN D5 t = if t = j then a else aN D' t := fun t => by rw [hD5]; exact recD_aN (by rw [HSS.out.d.len]; omega) hal t
      rw [← hD5] at o5 hst ⊢
      have hl5 := hst.len
      rw [hl5] at o5 ⊢
      obtain ⟨g5, cc5, hv, hg5, hnc5, hcm5⟩ := own_some o5 (by omega)
      injection hv with hv1 hv2 hv3
      subst hv1 hv3
      unfold OV
      have hbn : (w5.alloc (.cells #[.int .u8 K, .slice (some ⟨g5, 0, none⟩) (1 + 4 * n) c5] 35)).heap[w5.heap.size]? = some (.cells #[.int .u8 K, .slice (some ⟨g5, 0, none⟩) (1 + 4 * n) c5] 35 (0, 0)) := heap_alloc_new _ _
      have hF6 : Fr [] w5 (w5.alloc (.cells #[.int .u8 K, .slice (some ⟨g5, 0, none⟩) (1 + 4 * n) c5] 35)) := (Fr.refl _ _).alloc _
      have n0 := obx0 (k := K) hbn
      have n1 := obx1 (k := K) hbn
      have cRou := route_go K g5 0 (1 + 4 * n) c5 D5 (j + 1) (n - (j + 1)) _ hl5 ((Rd.own o5).fr hF6 (by simp)) hnc5 (by simpa [maxLen] using hcm5) (by omega) HKl (hst.right HK.out) hst.ptr (by omega)
      unfold OV at cRou
      have CROU := Lib.hid cRou
      have HF6 := Lib.hid (hF5.trans hF6)
      have HBN := Lib.hid hbn
      have HRD5 := Lib.hid ((Rd.own o5).fr hF6 (by simp))
      have HG5 := Lib.hid (show wr.heap.size ≤ g5 from hg5)
      have HST := Lib.hid hst
      have HAN := Lib.hid haN
      clear cRou hF5 hF6 o5 hst haN hD5 hbn CREC hv2 hg5
      go_wp2_with fail
      refine CROU.out.mono ?_
      rintro e w7 ⟨hF7, A1, c1', A2, c2', rfl, o1, o2, _⟩
      rw [C32_done] at o1
      rw [C32_left] at o2
      have hF67 := HF6.out.trans hF7
      have n0 := obx0 (k := K) (hF7.blk HBN.out (by simp))
      have n1 := obx1 (k := K) (hF7.blk HBN.out (by simp))
      have q0 := hF67.cell q0 (by simp)
      have q1 := hF67.cell q1 (by simp)
      obtain ⟨gd, cc1, hv, hgd, hnc1, hcm1⟩ := own_some o1 (by omega)
      injection hv with hv1 hv2 hv3
      subst hv1 hv3
      have hc1r := (Rd.own o1)
      have hcd := own_cell o1 (CW_get (f := aN D5) (show j < j + 1 by omega))
      rw [HAN.out j, if_pos rfl] at hcd
      have hrd1 : Rd w7 (some ⟨gd, 0, none⟩) (CW (aN D) k) := by
        have h := hc1r.take k
        rw [show (CW (aN D5) (j + 1)).take k = CW (aN D) k from by
          rw [CW_take (by omega)]
          exact CW_congr fun t ht => by rw [HAN.out t, if_neg (by omega), HSS.out.old t ht]] at h
        exact h
      have hrd3 := (O3b.out.fr HSS.out.fr HB3b.out).fr hF67 (by simp)
      have hrd2 : Rd w7 A2 (CW (fun t => aN D (j + 1 + t)) (n - (j + 1))) := by
        have h := Rd.own o2
        rw [show CW (fun t => aN D5 (j + 1 + t)) (n - (j + 1)) = CW (fun t => aN D (j + 1 + t)) (n - (j + 1)) from CW_congr fun t ht => by rw [HAN.out, if_neg (by omega), HSS.out.nxt _ (by omega)]] at h
        exact h
      obtain ⟨b4, o4, hA4⟩ := rd_addr O4b.out (by rw [CW_length]; have := HQ.out; omega)
      subst hA4
      obtain ⟨t, ht⟩ : ∃ t, t = j + 1 - k := ⟨_, rfl⟩
      have hqt : q - t = n - (j + 1) := by have := HQ.out; omega
      have htq : t ≤ q := by have := HQ.out; omega
      obtain ⟨E, hE⟩ : ∃ E : Option Addr, (if c4 = t then some ⟨b4, o4, none⟩ else some ⟨b4, o4 + t, none⟩) = E := ⟨_, rfl⟩
      have hrd4 : Rd w7 E (CW (fun t => aN D (j + 1 + t)) (n - (j + 1))) := by
        by_cases hc : c4 = t
        · rw [show n - (j + 1) = 0 by omega]; exact Rd.nil _ _
        · rw [if_neg hc] at hE
          have h := ((O4b.out.fr HSS.out.fr HB4b.out).fr hF67 (by simp)).drop t
          rw [CW_drop, hqt] at h
          rw [show (fun t_1 => aN D (k + (t + t_1))) = (fun t => aN D (j + 1 + t)) from funext fun t_1 => by rw [show k + (t + t_1) = j + 1 + t_1 by omega]] at h
          simp only [Option.map_some, add_at] at h
          rw [hE] at h
          exact h
      obtain ⟨i1, hi1⟩ : ∃ i1, i1 = j + 1 := ⟨_, rfl⟩
      obtain ⟨q2, hq2⟩ : ∃ q2, q2 = n - (j + 1) := ⟨_, rfl⟩
      rw [← hq2] at hrd2 hrd4 hqt ⊢
      rw [← hi1] at hnc1 ⊢
      have e1 : ((i1 : Int) != (j : Int) + 1) = false := by simp; omega
      have e2 : ((q2 : Int) != (n : Int) - (j : Int) - 1) = false := by simp; omega
      have wnj : IntKind.i64.wrap ((n : Int) - (j : Int)) = (n : Int) - (j : Int) := IntWalk.i64_in _ (by omega)
      have wnj1 : IntKind.i64.wrap ((n : Int) - (j : Int) - 1) = (n : Int) - (j : Int) - 1 := IntWalk.i64_in _ (by omega)
      have wt : IntKind.i64.wrap ((j : Int) + 1 - (k : Int)) = (t : Int) := by rw [IntWalk.i64_in _ (by omega)]; omega
      have ix : (0 : Int) ≤ (j : Int) ∧ (j : Int) < (i1 : Int) := by omega
      have ib1 : (0 : Int) ≤ (k : Int) ∧ (k : Int) ≤ (c1' : Int) := by omega
      have ib2 : (0 : Int) ≤ (t : Int) ∧ (t : Int) ≤ (q : Int) := by omega
      have cS1 := sameW_yes (some ⟨gd, 0, none⟩) A3 k k c1' c3 (aN D) w7 rfl hrd1 hrd3 (by omega)
      have cS2 := fun W (hW : Fr [] w7 W) => sameW_yes A2 E q2 (q - t) c2' (c4 - t) (fun t => aN D (j + 1 + t)) W hqt.symm (hrd2.fr hW (by simp)) (hrd4.fr hW (by simp)) (by omega)
      have CS1 := Lib.hid cS1
      have CS2 := Lib.hid cS2
      have HF67 := Lib.hid hF67
      have HBO := Lib.hid (hF67.blk HSS.out.box (by simp))
      have HR5 := Lib.hid (HRD5.out.fr hF7 (by simp))
      have HI1 := Lib.hid hi1
      clear cS1 cS2 hF67 hF7 o1 o2 hc1r hrd1 hrd2 hrd3 hrd4 hqt hi1 hq2 ht HRD5 CROU hv2
      go_wp2_with fail
      refine CS1.out.mono ?_
      rintro e w9 ⟨rfl, hF9⟩
      have n0 := hF9.cell n0 (by simp)
      have n1 := hF9.cell n1 (by simp)
      have q0 := hF9.cell q0 (by simp)
      have q1 := hF9.cell q1 (by simp)
      clear CS1
      go_wp2_with fail
      refine (CS2.out _ hF9).mono ?_
      rintro e w10 ⟨rfl, hF10⟩
      have n0 := hF10.cell n0 (by simp)
      have n1 := hF10.cell n1 (by simp)
      have q0 := hF10.cell q0 (by simp)
      have q1 := hF10.cell q1 (by simp)
      have HBO2 := Lib.hid (hF10.blk (hF9.blk HBO.out (by simp)) (by simp))
      have HF10 := Lib.hid (HF67.out.trans (hF9.trans hF10))
      have HR10 := Lib.hid (HR5.out.fr (hF9.trans hF10) (by simp))
      clear CS2 hF9 hF10 HBO HR5 HF67
      go_wp2_with (refine wpList_store_row rfl 35 _ _ rfl bo #[.int .u8 K, .slice (some ⟨g5, 0, none⟩) (1 + 4 * n) c5] rfl rfl _ _ HBO2.out (by kernel_rfl) rfl (by simp [Value.oneCell']) ?_)
      have hsr : Fr [bo] w10 (w10.setRow bo #[.int .u8 K, .slice (some ⟨g5, 0, none⟩) (1 + 4 * n) c5]) := (Fr.refl _ _).setRow (.inl (by simp)) _
      have hg5b : g5 ≠ bo := by have := HG5.out; omega
      have hrel : ∃ (j' : Nat) (D' : List UInt8) (A' : Option Addr) (c' : Nat), k ≤ j' ∧ j' ≤ n ∧ Value.int IntKind.i64 ((j : Int) + 1) = .int .i64 j' ∧ RcS w8 bo K n k D j' D' A' c' (w10.setRow bo #[.int .u8 K, .slice (some ⟨g5, 0, none⟩) (1 + 4 * n) c5]) := by
        refine ⟨i1, D5, some ⟨g5, 0, none⟩, c5, by have := HI1.out; omega, by have := HI1.out; omega, by rw [HI1.out]; rfl, ?_⟩
        rw [HI1.out]
        refine ⟨(HSS.out.fr.trans HF10.out.nil).trans hsr, setRow_heap w10 _ _ _ _ _ HBO2.out, HR10.out.fr hsr (by intro ad h; injection h with h; subst h; simpa using hg5b), ?_, HST.out, ?_, ?_⟩
        · intro ad h; injection h with h; subst h; exact hg5b
        · intro t ht; rw [HAN.out t, if_neg (by omega)]; exact HSS.out.old t ht
        · intro t ht; rw [HAN.out t, if_neg (by omega)]; exact HSS.out.nxt t (by omega)
      go_roundw
      case measure => have := HI1.out; simp [intOf]; omega
      case rel => first | exact hrel | ((repeat apply Exists.intro); exact ⟨hrel, rfl⟩)
    · have hlti : (j : Int) < (n : Int) := by omega
      have wj1 : IntKind.i64.wrap ((j : Int) + 1) = (j : Int) + 1 := IntWalk.i64_in _ (by omega)
      have wk1 : IntKind.i64.wrap (1000 * (j : Int)) = 1000 * (j : Int) := IntWalk.i64_in _ (by omega)
      have wk2 : IntKind.u32.wrap (1000 * (j : Int)) = 1000 * (j : Int) := u32_in (by omega) (by omega)
      have d0 : decide ((0 : Int) < (na : Int)) = true := decide_eq_true (by omega)
      have d0' : (0 : Int) < (na : Int) := by omega
      have hrl : j % na < na := Nat.mod_lt _ (by omega)
      obtain ⟨a, ha⟩ : ∃ a : Nat, ads[j % na]? = some a := ⟨_, List.getElem?_eq_getElem (by rw [HL.out]; exact hrl)⟩
      have hal : a < 4294967296 := HB.out a (List.mem_of_getElem? ha)
      have hFA : Fr [] w wr := HF8.out.trans2 hS.fr (fun t ht => .inr (by simp at ht; subst ht; exact HWL.out))
      obtain ⟨ab, ao, hA⟩ := rd_addr HRD.out (by unfold U32; rw [List.length_map, HL.out]; omega)
      subst hA
      have hca := rdc (HRD.out.fr hFA (by simp)) (j % na) _ (U32_get ha)
      have tm : (j : Int) % (na : Int) = ((j % na : Nat) : Int) := by omega
      have tm' : (j : Int).tmod (na : Int) = ((j % na : Nat) : Int) := by rw [Int.tmod_eq_emod_of_nonneg (by omega)]; omega
      obtain ⟨r, hr⟩ : ∃ r, r = j % na := ⟨_, rfl⟩
      rw [← hr] at tm tm' hca hrl
      have i0 : (0 : Int) ≤ (r : Int) ∧ (r : Int) < (na : Int) := by omega
      have na0 : ¬ ((na : Int) = 0) := by omega
      clear ha hFA hr
      have cRec := fun W (hW : Fr [] wr W) => record_go K A' (1 + 4 * n) c' D' a (1 + 4 * j) W hS.d.len (hS.rd.fr hW (by simp)) (by omega) (by omega) HKl hal (hS.d.right HK.out) (by rw [hS.d.ptr]; omega) (by omega)
      unfold OV at cRec
      have CREC := Lib.hid cRec
      have HSS := Lib.hid hS
      clear cRec hS
      go_wp2_with fail
      refine (CREC.out _ (Fr.refl _ _)).mono ?_
      rintro e w5 ⟨A5, c5, rfl, o5, hF5⟩
      have hst := HSS.out.d.step (a := a) hlt
      obtain ⟨D5, hD5⟩ : ∃ D5, D5 = recD D' (1 + 4 * j) a := ⟨_, rfl⟩
      have haN : ∀ t, aN D5 t = if t = j then a else aN D' t := fun t => by rw [hD5]; exact recD_aN (by rw [HSS.out.d.len]; omega) hal t
      rw [← hD5] at o5 hst ⊢
      have hl5 := hst.len
      rw [hl5] at o5 ⊢
      obtain ⟨g5, cc5, hv, hg5, hnc5, hcm5⟩ := own_some o5 (by omega)
      injection hv with hv1 hv2 hv3
      subst hv1 hv3
      unfold OV
      have hbn : (w5.alloc (.cells #[.int .u8 K, .slice (some ⟨g5, 0, none⟩) (1 + 4 * n) c5] 35)).heap[w5.heap.size]? = some (.cells #[.int .u8 K, .slice (some ⟨g5, 0, none⟩) (1 + 4 * n) c5] 35 (0, 0)) := heap_alloc_new _ _
      have hF6 : Fr [] w5 (w5.alloc (.cells #[.int .u8 K, .slice (some ⟨g5, 0, none⟩) (1 + 4 * n) c5] 35)) := (Fr.refl _ _).alloc _
      have n0 := obx0 (k := K) hbn
      have n1 := obx1 (k := K) hbn
      have cRou := route_go K g5 0 (1 + 4 * n) c5 D5 (j + 1) (n - (j + 1)) _ hl5 ((Rd.own o5).fr hF6 (by simp)) hnc5 (by simpa [maxLen] using hcm5) (by omega) HKl (hst.right HK.out) hst.ptr (by omega)
      unfold OV at cRou
      have CROU := Lib.hid cRou
      have HF6 := Lib.hid (hF5.trans hF6)
      have HBN := Lib.hid hbn
      have HRD5 := Lib.hid ((Rd.own o5).fr hF6 (by simp))
      have HG5 := Lib.hid (show wr.heap.size ≤ g5 from hg5)
      have HST := Lib.hid hst
      have HAN := Lib.hid haN
      clear cRou hF5 hF6 o5 hst haN hD5 hbn CREC hv2 hg5
      go_wp2_with fail
      refine CROU.out.mono ?_
      rintro e w7 ⟨hF7, A1, c1', A2, c2', rfl, o1, o2, _⟩
      rw [C32_done] at o1
      rw [C32_left] at o2
      have hF67 := HF6.out.trans hF7
      have n0 := obx0 (k := K) (hF7.blk HBN.out (by simp))
      have n1 := obx1 (k := K) (hF7.blk HBN.out (by simp))
      have q0 := hF67.cell q0 (by simp)
      have q1 := hF67.cell q1 (by simp)
      obtain ⟨gd, cc1, hv, hgd, hnc1, hcm1⟩ := own_some o1 (by omega)
      injection hv with hv1 hv2 hv3
      subst hv1 hv3
      have hc1r := (Rd.own o1)
      have hcd := own_cell o1 (CW_get (f := aN D5) (show j < j + 1 by omega))
      rw [HAN.out j, if_pos rfl] at hcd
      have hrd1 : Rd w7 (some ⟨gd, 0, none⟩) (CW (aN D) k) := by
        have h := hc1r.take k
        rw [show (CW (aN D5) (j + 1)).take k = CW (aN D) k from by
          rw [CW_take (by omega)]
          exact CW_congr fun t ht => by rw [HAN.out t, if_neg (by omega), HSS.out.old t ht]] at h
        exact h
      have hrd3 := (O3b.out.fr HSS.out.fr HB3b.out).fr hF67 (by simp)
      have hrd2 : Rd w7 A2 (CW (fun t => aN D (j + 1 + t)) (n - (j + 1))) := by
        have h := Rd.own o2
        rw [show CW (fun t => aN D5 (j + 1 + t)) (n - (j + 1)) = CW (fun t => aN D (j + 1 + t)) (n - (j + 1)) from CW_congr fun t ht => by rw [HAN.out, if_neg (by omega), HSS.out.nxt _ (by omega)]] at h
        exact h
      obtain ⟨b4, o4, hA4⟩ := rd_addr O4b.out (by rw [CW_length]; have := HQ.out; omega)
      subst hA4
      obtain ⟨t, ht⟩ : ∃ t, t = j + 1 - k := ⟨_, rfl⟩
      have hqt : q - t = n - (j + 1) := by have := HQ.out; omega
      have htq : t ≤ q := by have := HQ.out; omega
      obtain ⟨E, hE⟩ : ∃ E : Option Addr, (if c4 = t then some ⟨b4, o4, none⟩ else some ⟨b4, o4 + t, none⟩) = E := ⟨_, rfl⟩
      have hrd4 : Rd w7 E (CW (fun t => aN D (j + 1 + t)) (n - (j + 1))) := by
        by_cases hc : c4 = t
        · rw [show n - (j + 1) = 0 by omega]; exact Rd.nil _ _
        · rw [if_neg hc] at hE
          have h := ((O4b.out.fr HSS.out.fr HB4b.out).fr hF67 (by simp)).drop t
          rw [CW_drop, hqt] at h
          rw [show (fun t_1 => aN D (k + (t + t_1))) = (fun t => aN D (j + 1 + t)) from funext fun t_1 => by rw [show k + (t + t_1) = j + 1 + t_1 by omega]] at h
          simp only [Option.map_some, add_at] at h
          rw [hE] at h
          exact h
      obtain ⟨i1, hi1⟩ : ∃ i1, i1 = j + 1 := ⟨_, rfl⟩
      obtain ⟨q2, hq2⟩ : ∃ q2, q2 = n - (j + 1) := ⟨_, rfl⟩
      rw [← hq2] at hrd2 hrd4 hqt ⊢
      rw [← hi1] at hnc1 ⊢
      have e1 : ((i1 : Int) != (j : Int) + 1) = false := by simp; omega
      have e2 : ((q2 : Int) != (n : Int) - (j : Int) - 1) = false := by simp; omega
      have wnj : IntKind.i64.wrap ((n : Int) - (j : Int)) = (n : Int) - (j : Int) := IntWalk.i64_in _ (by omega)
      have wnj1 : IntKind.i64.wrap ((n : Int) - (j : Int) - 1) = (n : Int) - (j : Int) - 1 := IntWalk.i64_in _ (by omega)
      have wt : IntKind.i64.wrap ((j : Int) + 1 - (k : Int)) = (t : Int) := by rw [IntWalk.i64_in _ (by omega)]; omega
      have ix : (0 : Int) ≤ (j : Int) ∧ (j : Int) < (i1 : Int) := by omega
      have ib1 : (0 : Int) ≤ (k : Int) ∧ (k : Int) ≤ (c1' : Int) := by omega
      have ib2 : (0 : Int) ≤ (t : Int) ∧ (t : Int) ≤ (q : Int) := by omega
      have cS1 := sameW_yes (some ⟨gd, 0, none⟩) A3 k k c1' c3 (aN D) w7 rfl hrd1 hrd3 (by omega)
      have cS2 := fun W (hW : Fr [] w7 W) => sameW_yes A2 E q2 (q - t) c2' (c4 - t) (fun t => aN D (j + 1 + t)) W hqt.symm (hrd2.fr hW (by simp)) (hrd4.fr hW (by simp)) (by omega)
      have CS1 := Lib.hid cS1
      have CS2 := Lib.hid cS2
      have HF67 := Lib.hid hF67
      have HBO := Lib.hid (hF67.blk HSS.out.box (by simp))
      have HR5 := Lib.hid (HRD5.out.fr hF7 (by simp))
      have HI1 := Lib.hid hi1
      clear cS1 cS2 hF67 hF7 o1 o2 hc1r hrd1 hrd2 hrd3 hrd4 hqt hi1 hq2 ht HRD5 CROU hv2
      go_wp2_with fail
      refine CS1.out.mono ?_
      rintro e w9 ⟨rfl, hF9⟩
      have n0 := hF9.cell n0 (by simp)
      have n1 := hF9.cell n1 (by simp)
      have q0 := hF9.cell q0 (by simp)
      have q1 := hF9.cell q1 (by simp)
      clear CS1
      go_wp2_with fail
      refine (CS2.out _ hF9).mono ?_
      rintro e w10 ⟨rfl, hF10⟩
      have n0 := hF10.cell n0 (by simp)
      have n1 := hF10.cell n1 (by simp)
      have q0 := hF10.cell q0 (by simp)
      have q1 := hF10.cell q1 (by simp)
      have HBO2 := Lib.hid (hF10.blk (hF9.blk HBO.out (by simp)) (by simp))
      have HF10 := Lib.hid (HF67.out.trans (hF9.trans hF10))
      have HR10 := Lib.hid (HR5.out.fr (hF9.trans hF10) (by simp))
      clear CS2 hF9 hF10 HBO HR5 HF67
      go_wp2_with (refine wpList_store_row rfl 35 _ _ rfl bo #[.int .u8 K, .slice (some ⟨g5, 0, none⟩) (1 + 4 * n) c5] rfl rfl _ _ HBO2.out (by kernel_rfl) rfl (by simp [Value.oneCell']) ?_)
      have hsr : Fr [bo] w10 (w10.setRow bo #[.int .u8 K, .slice (some ⟨g5, 0, none⟩) (1 + 4 * n) c5]) := (Fr.refl _ _).setRow (.inl (by simp)) _
      have hg5b : g5 ≠ bo := by have := HG5.out; omega
      have hrel : ∃ (j' : Nat) (D' : List UInt8) (A' : Option Addr) (c' : Nat), k ≤ j' ∧ j' ≤ n ∧ Value.int IntKind.i64 ((j : Int) + 1) = .int .i64 j' ∧ RcS w8 bo K n k D j' D' A' c' (w10.setRow bo #[.int .u8 K, .slice (some ⟨g5, 0, none⟩) (1 + 4 * n) c5]) := by
        refine ⟨i1, D5, some ⟨g5, 0, none⟩, c5, by have := HI1.out; omega, by have := HI1.out; omega, by rw [HI1.out]; rfl, ?_⟩
        rw [HI1.out]
        refine ⟨(HSS.out.fr.trans HF10.out.nil).trans hsr, setRow_heap w10 _ _ _ _ _ HBO2.out, HR10.out.fr hsr (by intro ad h; injection h with h; subst h; simpa using hg5b), ?_, HST.out, ?_, ?_⟩
        · intro ad h; injection h with h; subst h; exact hg5b
        · intro t ht; rw [HAN.out t, if_neg (by omega)]; exact HSS.out.old t ht
        · intro t ht; rw [HAN.out t, if_neg (by omega)]; exact HSS.out.nxt t (by omega)
      go_roundw
      case measure => have := HI1.out; simp [intOf]; omega
      case rel => first | exact hrel | ((repeat apply Exists.intro); exact ⟨hrel, rfl⟩)
    · obtain rfl : j = n := by omega
      have hlti : ¬ (j : Int) < (j : Int) := by omega
      have cRec := fun W (hW : Fr [] wr W) => record_full K A' (1 + 4 * j) c' D' 5 W hS.d.len (hS.rd.fr hW (by simp)) (by omega) (by omega) HKl (hS.d.right HK.out) (by rw [hS.d.ptr]; omega)
      unfold OV at cRec
      have CREC := Lib.hid cRec
      have HFA := Lib.hid (show Fr [] w wr from HF8.out.trans2 hS.fr (fun t ht => .inr (by simp at ht; subst ht; exact HWL.out)))
      clear cRec hS
      go_wp2_with fail
      refine (CREC.out _ (Fr.refl _ _)).mono ?_
      rintro e w5 ⟨rfl, hF5⟩
      unfold OV
      have hbn : (w5.alloc (.cells #[.int .u8 0, .slice none 0 0] 35)).heap[w5.heap.size]? = some (.cells #[.int .u8 0, .slice none 0 0] 35 (0, 0)) := heap_alloc_new _ _
      have n0 := obx0 (k := 0) hbn
      have n1 := obx1 (k := 0) hbn
      have HF := Lib.hid ((HFA.out.trans hF5).alloc (.cells #[.int .u8 0, .slice none 0 0] 35))
      clear hF5 hbn CREC
      go_wp2_with fail
      go_ret
      exact ⟨rfl, HF.out⟩
end Go.Proofs.Ytekhjpiopbkoaaa
