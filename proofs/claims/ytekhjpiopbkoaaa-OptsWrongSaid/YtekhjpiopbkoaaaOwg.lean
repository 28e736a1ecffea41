/- OptsWrong (written by gen_owg.py). -/
import Derived.Test.YtekhjpiopbkoaaaOmw
import Derived.Test.YtekhjpiopbkoaaaOwp
import Derived.Deep.CutBlock
import Derived.Deep.DeepCutAuto
import Derived.Deep.RegionHeld
import Derived.Deep.RegionHeld3
namespace Go.Proofs.Ytekhjpiopbkoaaa
open Go.RowKit
set_option linter.unusedVariables false
set_option maxRecDepth 100000

/-- The option that is wrong, in its box. -/
def BdW (w0 : World) (g q : Nat) (W : World) : Prop :=
  ∃ (K : Nat) (A : Option Addr) (n c : Nat) (D : List UInt8), Bad q K D ∧ W.heap[g]? = some (.cells #[.int .u8 K, .slice A n c] 35 (0, 0)) ∧ OptOk W ⟨K, A, n, c, D⟩ ∧ Fr [g] w0 W
theorem bd_end {w0 W : World} {g q K n b : Nat} {D : List UInt8} {old : Array Value} (hbad : Bad q K D) (hb : W.heap[g]? = some (.cells old 35 (0, 0))) (hrd : Rd W (some ⟨b, 0, none⟩) (B8 D)) (hlen : D.length = n) (hne : g < b) (hF : Fr [g] w0 W) (v : Value) (hv : v = .int .u8 K) :
    BdW w0 g q (W.setRow g #[v, .slice (some ⟨b, 0, none⟩) n n]) := by
  subst hv
  have hFs : Fr [g] W (W.setRow g #[.int .u8 K, .slice (some ⟨b, 0, none⟩) n n]) := (Fr.refl _ _).setRow (.inl (by simp)) _
  refine ⟨K, some ⟨b, 0, none⟩, n, n, D, hbad, setRow_heap W _ _ _ _ _ hb, ⟨hrd.fr hFs (by intro ad h; injection h with h; subst h; simp; omega), hlen, ?_, hbad.k, (fun h => by cases h), Nat.le_refl _⟩, hF.trans hFs⟩
  have := hbad.len
  show n ≤ _
  omega
theorem Rd.ownS {w : World} {base n c s : Nat} {A : Option Addr} {e : TypeId} {xs : List Value} (h : w.ownsRow base e s (.slice A n c) n xs) : Rd w A xs := fun j u hu => by
  rcases h.2 with ⟨hv, rfl⟩ | ⟨g, cap, cur, hv, _⟩
  · have : xs = [] := List.eq_nil_of_length_eq_zero (by simpa using h.1)
    subst this
    simp at hu
  · injection hv with hA
    subst hA
    exact ⟨_, rfl, h.cells (g := g) rfl j u hu⟩
theorem CO_one (l : List Opt) : ∀ u ∈ CO l, u.oneCell' = true := by
  intro u hu
  unfold CO at hu
  obtain ⟨o, _, h⟩ := List.mem_flatMap.1 hu
  simp at h
  rcases h with rfl | rfl <;> rfl
theorem rd_row {W : World} {b K nb cb : Nat} {Ab : Option Addr} (h : W.heap[b]? = some (.cells #[.int .u8 K, .slice Ab nb cb] 35 (0, 0))) : Rd W (some ⟨b, 0, none⟩) [.int .u8 K, .slice Ab nb cb] := fun j u hu => by
  refine ⟨_, rfl, ?_⟩
  rw [add_pl, Nat.zero_add]
  match j, hu with
  | 0, hu => simp at hu; subst hu; simp [World.cell?, h]
  | 1, hu => simp at hu; subst hu; simp [World.cell?, h]
  | j + 2, hu => simp at hu
theorem rd_four (V : World) (t : TypeId) : Rd (V.alloc (.cells #[.int .u8 4] t)) (some ⟨V.heap.size, 0, none⟩) (B8 [4]) := by
  have h := rd_new V [4] t
  have e : (B8 [4]).toArray = #[Value.int .u8 4] := by simp [B8]
  rw [e] at h
  exact h
theorem z013 (wb : World) (u : Nat) (t : TypeId) : ∃ z : Nat, (z = 0 ∨ z = 1 ∨ z = 3) ∧ (wb.alloc (.cells #[.int .i64 0, .int .i64 1, .int .i64 3] t)).cell? ⟨wb.heap.size, u % 3, none⟩ = some (.int .i64 z) := by
  have h : u % 3 < 3 := Nat.mod_lt _ (by decide)
  generalize u % 3 = j at h
  match j, h with
  | 0, _ => exact ⟨0, by omega, new_cell wb _ _ _ _ rfl⟩
  | 1, _ => exact ⟨1, by omega, new_cell wb _ _ _ _ rfl⟩
  | 2, _ => exact ⟨3, by omega, new_cell wb _ _ _ _ rfl⟩
set_option maxHeartbeats 40000000 in
theorem optsWrong_any (A : Option Addr) (n c : Nat) (l : List SmO) (way u : Nat) (w : World) (hl : l.length = n) (hnc : n ≤ c) (hrd : RdSm w A l) (hway : way < 256) (hu : u < 256) :
    Calls Try.prog 8 #[.slice A n c, .int .u8 way, .int .u8 u] w fun e w' => e = .returned (.bool true) ∧ Fr [] w w' := by
  have cA := awake6 w
  obtain ⟨m, hm⟩ : ∃ m, (n ≤ 2 ∧ m = n) ∨ (¬ n ≤ 2 ∧ m = 2) := by
    by_cases h : n ≤ 2
    · exact ⟨n, .inl ⟨h, rfl⟩⟩
    · exact ⟨2, .inr ⟨h, rfl⟩⟩
  have hmi := min_is (n := n) (m := m) (M := 2) (k := 2) rfl hm
  have bm : (0 : Int) ≤ (m : Int) ∧ (m : Int) ≤ (c : Int) := by omega
  have cM := fun W (hW : Fr [] w W) => made_any A m c (l.take 2) W (by rw [List.length_take]; omega) (by omega) ((hrd.take 2).fr hW)
  have CM := Lib.hid cM
  clear hrd hl cM hnc hm
  go_enter Try.func8, Try.ntmps8
  go_wp2_with fail
  refine cA.mono ?_
  rintro e wa ⟨rfl, hFa⟩
  clear cA
  go_wp2_with fail
  refine (CM.out _ hFa).mono ?_
  rintro e w1 ⟨os, A1, c1, rfl, ho1, hO1, hm1, hF1⟩
  clear CM
  have hI := mkAll_inv ((l.take 2).take 40)
  generalize mkAll ((l.take 2).take 40) = st at hm1 hI ⊢
  obtain ⟨L, N, ms⟩ := st
  simp only at hm1 hI ⊢
  have hN : N = (flatP L).length := hI.n
  have h40 : (flatP L).length ≤ 40 := by rw [← hN]; exact hI.le
  have hok := hI.ok
  have htw := hI.tw
  simp only at hok htw
  have hol : os.length ≤ 40 := by have := flatP_len L; rw [← hm1, List.length_map] at this; rw [hm1] at this; omega
  have hbx : (w1.alloc (.cells #[.int .u8 0, .slice none 0 0] 35)).heap[w1.heap.size]? = some (.cells #[.int .u8 0, .slice none 0 0] 35 (0, 0)) := heap_alloc_new _ _
  have hFb : Fr [] w1 (w1.alloc (.cells #[.int .u8 0, .slice none 0 0] 35)) := (Fr.refl _ _).alloc _
  have hbs : (w1.alloc (.cells #[.int .u8 0, .slice none 0 0] 35)).heap.size = w1.heap.size + 1 := by simp
  have HO1 := Lib.hid (hO1.fr hFb (by simp))
  have HOW := Lib.hid (hFb.own ho1 (by simp))
  have HRO := Lib.hid ((hO1.rd ho1).fr hFb)
  have HF1 := Lib.hid (hFa.trans (hF1.trans hFb))
  have HN := Lib.hid hN
  have H40 := Lib.hid h40
  have HOK := Lib.hid hok
  have HTW := Lib.hid htw
  have HM1 := Lib.hid hm1
  have HGW := Lib.hid (show w.heap.size ≤ w1.heap.size from (hFa.trans hF1).size)
  have HLT := Lib.hid (show ∀ k, (Value.slice A1 os.length c1).ownBlock = some k → k < w1.heap.size from fun k hk => (ho1.lt k hk).2)
  have HLO := Lib.hid (show ∀ a ∈ os, ∀ k, (opO a).ownBlock = some k → k < w1.heap.size from fun a ha k hk => ((hO1.own a ha).lt k hk).2)
  clear hI ho1 hO1 hF1 hFa hFb hN h40 hok htw hm1
  go_upto_block 0 with (fail)
  generalize w1.alloc (.cells #[.int .u8 0, .slice none 0 0] 35) = w2 at hbx hbs HO1 HOW HRO HF1 ⊢
  generalize w1.heap.size = g at hbx hbs HGW HLT HLO ⊢
  have HBX := Lib.hid hbx
  have HBS := Lib.hid hbs
  clear hbx hbs
  obtain ⟨q, hq⟩ : ∃ q, q = way % 8 := ⟨_, rfl⟩
  go_cut [] (fun wx => BdW w2 g q wx)
  case first => -- ways
    have hgs : g < w2.heap.size := by have := HBS.out; omega
    have hq8 : q < 8 := by rw [hq]; exact Nat.mod_lt _ (by decide)
    by_cases h0 : q = 0
    · have hw : (way : Int) % 8 = 0 := by omega
      clear hq hq8
      subst h0
      go_wp2_with fail
      go_meet
      exact ⟨0, none, 0, 0, [], bad0, HBX.out, ⟨Rd.nil _ _, rfl, by decide, by decide, fun _ => rfl, by decide⟩, Fr.refl _ _⟩
    by_cases h1 : q = 1
    · have hw : (way : Int) % 8 = 1 := by omega
      clear hq hq8
      subst h1
      have hF : Fr [] w2 (w2.alloc (.cells #[.int .u8 u] 5)) := (Fr.refl _ _).alloc _
      have HBq := (hF).blk HBX.out (by simp)
      go_wp2_with (refine wpList_store_row rfl 35 _ _ rfl g #[.int .u8 1, .slice (some ⟨w2.heap.size, 0, none⟩) 1 1] rfl rfl _ _ HBq (by kernel_rfl) rfl (by simp [Value.oneCell']) ?_)
      go_meet
      refine bd_end (bad1 (UInt8.ofNat u)) HBq ?_ rfl hgs hF.nil _ rfl
      have := rd_new w2 [UInt8.ofNat u] 5
      rw [show (B8 [UInt8.ofNat u]).toArray = #[.int .u8 u] by simp [B8, ofNat_nat hu]] at this
      exact this
    by_cases h2 : q = 2
    · have hw : (way : Int) % 8 = 2 := by omega
      clear hq hq8
      subst h2
      obtain ⟨z, hz, hc⟩ := z013 w2 u 3
      have hF0 : Fr [] w2 (w2.alloc (.cells #[.int .i64 0, .int .i64 1, .int .i64 3] 3)) := (Fr.refl _ _).alloc _
      have hs0 : (w2.alloc (.cells #[.int .i64 0, .int .i64 1, .int .i64 3] 3)).heap.size = w2.heap.size + 1 := by simp
      obtain ⟨r, hr⟩ : ∃ r, r = u % 3 := ⟨_, rfl⟩
      rw [← hr] at hc
      have t1 : (u : Int) % 3 = (r : Int) := by omega
      have i0 : (0 : Int) ≤ (r : Int) ∧ (r : Int) < 3 := by omega
      obtain ⟨wz, hmk, oz, hFz⟩ := makez .i64 z (by omega) (w2.alloc (.cells #[.int .i64 0, .int .i64 1, .int .i64 3] 3))
      rw [hs0] at hmk oz
      have hF := hF0.trans hFz
      clear hr
      have HBq := (hF).blk HBX.out (by simp)
      go_wp2_with (refine wpList_store_row rfl 35 _ _ rfl g #[.int .u8 148, .slice (some ⟨w2.heap.size + 1, 0, none⟩) z z] rfl rfl _ _ HBq (by kernel_rfl) rfl (by simp [Value.oneCell']) ?_)
      go_meet
      refine bd_end (bad2 hz) HBq (Rd.own oz) (by simp) (by omega) hF.nil _ rfl
    by_cases h3 : q = 3
    · have hw : (way : Int) % 8 = 3 := by omega
      clear hq hq8
      subst h3
      have b1 := not3n hu
      have b2 := or_1n (u := u / 4 * 4) (by omega) (by omega)
      obtain ⟨p, hp⟩ : ∃ p, p = u / 4 * 4 := ⟨_, rfl⟩
      rw [← hp] at b1 b2
      obtain ⟨r, hr⟩ : ∃ r, r = u % 3 := ⟨_, rfl⟩
      have t1 : (u : Int) % 3 = (r : Int) := by omega
      obtain ⟨v, hve⟩ : ∃ v : Nat, v = p + 1 + r := ⟨_, rfl⟩
      have hv : v < 256 := by omega
      have hv4 : v % 4 ≠ 0 := by omega
      have e1 : ((p + 1 : Nat) : Int) + (r : Int) = (v : Int) := by omega
      obtain ⟨p1, hp1⟩ : ∃ p1, p1 = p + 1 := ⟨_, rfl⟩
      rw [← hp1] at b2 e1
      have w1v : IntKind.u8.wrap ((p1 : Int) + (r : Int)) = (v : Int) := by rw [e1]; exact u8_in (by omega) (by omega)
      clear hp hr hve hp1 e1
      have hF : Fr [] w2 (w2.alloc (.cells #[.int .u8 (v : Nat), .int .u8 0, .int .u8 0, .int .u8 0, .int .u8 0] 5)) := (Fr.refl _ _).alloc _
      have HBq := (hF).blk HBX.out (by simp)
      go_wp2_with (refine wpList_store_row rfl 35 _ _ rfl g #[.int .u8 7, .slice (some ⟨w2.heap.size, 0, none⟩) 5 5] rfl rfl _ _ HBq (by kernel_rfl) rfl (by simp [Value.oneCell']) ?_)
      go_meet
      refine bd_end (bad3 hv hv4) HBq ?_ rfl hgs hF.nil _ rfl
      have := rd_new w2 [UInt8.ofNat v, 0, 0, 0, 0] 5
      rw [show (B8 [UInt8.ofNat v, 0, 0, 0, 0]).toArray = #[.int .u8 (v : Nat), .int .u8 0, .int .u8 0, .int .u8 0, .int .u8 0] by simp [B8, ofNat_nat hv]] at this
      exact this
    by_cases h4 : q = 4
    · have hw : (way : Int) % 8 = 4 := by omega
      clear hq hq8
      subst h4
      obtain ⟨a, ha, b1⟩ := and_124n hu
      obtain ⟨v, hve⟩ : ∃ v : Nat, v = 12 + a := ⟨_, rfl⟩
      have hv : v < 256 := by omega
      have hv4 : 12 ≤ v := by omega
      have w1v : IntKind.u8.wrap (12 + (a : Int)) = (v : Int) := by rw [u8_in (by omega) (by omega)]; omega
      clear hve
      have hF : Fr [] w2 (w2.alloc (.cells #[.int .u8 (v : Nat), .int .u8 0, .int .u8 0, .int .u8 0, .int .u8 0] 5)) := (Fr.refl _ _).alloc _
      have HBq := (hF).blk HBX.out (by simp)
      go_wp2_with (refine wpList_store_row rfl 35 _ _ rfl g #[.int .u8 137, .slice (some ⟨w2.heap.size, 0, none⟩) 5 5] rfl rfl _ _ HBq (by kernel_rfl) rfl (by simp [Value.oneCell']) ?_)
      go_meet
      refine bd_end (bad4 hv hv4) HBq ?_ rfl hgs hF.nil _ rfl
      have := rd_new w2 [UInt8.ofNat v, 0, 0, 0, 0] 5
      rw [show (B8 [UInt8.ofNat v, 0, 0, 0, 0]).toArray = #[.int .u8 (v : Nat), .int .u8 0, .int .u8 0, .int .u8 0, .int .u8 0] by simp [B8, ofNat_nat hv]] at this
      exact this
    by_cases h5 : q = 5
    · have hw : (way : Int) % 8 = 5 := by omega
      clear hq hq8
      subst h5
      obtain ⟨s, hs⟩ : ∃ s, s = u % 16 := ⟨_, rfl⟩
      obtain ⟨p, hp⟩ : ∃ p, p = 16 * s := ⟨_, rfl⟩
      have b2 := or_4n (u := p) (by omega) (by omega)
      have w0v : IntKind.u8.wrap (16 * (u : Int)) = (p : Int) := by rw [u8_mod]; omega
      obtain ⟨r, hr⟩ : ∃ r, r = u % 12 := ⟨_, rfl⟩
      have t1 : (u : Int) % 12 = (r : Int) := by omega
      have hr12 : r < 12 := by omega
      have hs16 : s < 16 := by omega
      clear hr hs
      obtain ⟨p1, hp1⟩ : ∃ p1, p1 = p + 4 := ⟨_, rfl⟩
      obtain ⟨v, hve⟩ : ∃ v : Nat, v = p1 + r := ⟨_, rfl⟩
      have hv : v < 256 := by omega
      have hv4 : 4 ≤ v % 16 := by rw [hve, hp1, hp, show 16 * s + 4 + r = (4 + r) + 16 * s by omega, Nat.add_mul_mod_self_left]; omega
      rw [← hp1] at b2
      have w1v : IntKind.u8.wrap ((p1 : Int) + (r : Int)) = (v : Int) := by rw [u8_in (by omega) (by omega)]; omega
      clear hp hve hp1
      have hF : Fr [] w2 (w2.alloc (.cells #[.int .u8 5, .int .u8 (v : Nat)] 5)) := (Fr.refl _ _).alloc _
      have HBq := (hF).blk HBX.out (by simp)
      go_wp2_with (refine wpList_store_row rfl 35 _ _ rfl g #[.int .u8 68, .slice (some ⟨w2.heap.size, 0, none⟩) 2 2] rfl rfl _ _ HBq (by kernel_rfl) rfl (by simp [Value.oneCell']) ?_)
      go_meet
      refine bd_end (bad5 hv hv4) HBq ?_ rfl hgs hF.nil _ rfl
      have := rd_new w2 [5, UInt8.ofNat v] 5
      rw [show (B8 [5, UInt8.ofNat v]).toArray = #[.int .u8 5, .int .u8 (v : Nat)] by simp [B8, ofNat_nat hv]] at this
      exact this
    by_cases h6 : q = 6
    · have hw : (way : Int) % 8 = 6 := by omega
      clear hq hq8
      subst h6
      obtain ⟨z, hz⟩ : ∃ z : Nat, z = 39 + u := ⟨_, rfl⟩
      have w1v : (z : Int) = 39 + (u : Int) := by omega
      obtain ⟨wz, hmk, oz, hF⟩ := makez .i64 z (by omega) w2
      rw [w1v] at hmk
      have HZ := Lib.hid hz
      clear w1v hz
      have HBq := (hF).blk HBX.out (by simp)
      go_wp2_with (refine wpList_store_row rfl 35 _ _ rfl g #[.int .u8 200, .slice (some ⟨w2.heap.size, 0, none⟩) z z] rfl rfl _ _ HBq (by kernel_rfl) rfl (by simp [Value.oneCell']) ?_)
      go_meet
      refine bd_end (bad6 (by have := HZ.out; omega) (by have := HZ.out; omega)) HBq (Rd.own oz) (by simp) hgs hF.nil _ rfl
    by_cases h7 : q = 7
    · have hw : (way : Int) % 8 = 7 := by omega
      clear hq hq8
      subst h7
      obtain ⟨r, hr⟩ : ∃ r, r = u % 3 := ⟨_, rfl⟩
      have t1 : (u : Int) % 3 = (r : Int) := by omega
      have t1' : (u : Int).tmod 3 = (r : Int) := by rw [Int.tmod_eq_emod_of_nonneg (by omega)]; omega
      obtain ⟨z, hz⟩ : ∃ z : Nat, z = 2 + r := ⟨_, rfl⟩
      have w1v : (z : Int) = 2 + (r : Int) := by omega
      have w2v : IntKind.i64.wrap (2 + (r : Int)) = 2 + (r : Int) := IntWalk.i64_in _ (by omega)
      have hz4 : 2 ≤ z ∧ z ≤ 4 := by omega
      obtain ⟨wz, hmk, oz, hF⟩ := makez .i64 z (by omega) w2
      rw [w1v] at hmk
      clear hr hz w1v
      have HBq := (hF).blk HBX.out (by simp)
      go_wp2_with (refine wpList_store_row rfl 35 _ _ rfl g #[.int .u8 131, .slice (some ⟨w2.heap.size, 0, none⟩) z z] rfl rfl _ _ HBq (by kernel_rfl) rfl (by simp [Value.oneCell']) ?_)
      go_meet
      refine bd_end (bad7 hz4) HBq (Rd.own oz) (by simp) hgs hF.nil _ rfl
    exact absurd hq8 (by omega)
  case rest =>
    as_aux_lemma =>
      obtain ⟨w3, rfl⟩ : ∃ w3, w3 = wc := ⟨_, rfl⟩
      obtain ⟨K, Ab, nb, cb, D, hbad, hbb, hob, hFb⟩ := hcut
      have hgs : g < w2.heap.size := by have := HBS.out; omega
      have hoo := HO1.out.fr hFb (fun a ha k hk => by have := HLO.out a ha k hk; simp; omega)
      have hokc : ∀ o ∈ os, OptOk w3 o := fun o ho => hoo.ok ho
      have how := hFb.own HOW.out (fun k hk => by have := HLT.out k hk; simp; omega)
      have hFw : Fr [] w w3 := HF1.out.trans2 hFb (fun t ht => .inr (by simp at ht; subst ht; exact HGW.out))
      have hnc1 : os.length ≤ c1 ∧ c1 ≤ 9223372036854775807 := by obtain ⟨_, _, hv, h1, h2, _⟩ := own_slice how; injection hv with _ _ h3; subst h3; simp only [maxLen] at h2; exact ⟨h1, by omega⟩
      have hnil1 : A1 = none → c1 = 0 := fun hA => by
        rcases how.2 with ⟨hv, _⟩ | ⟨g', cap, cur, hv, _⟩
        · injection hv
        · injection hv with h1; rw [hA] at h1; cases h1
      have hall : ∀ W, Fr [] w3 W → ∀ o ∈ os ++ [(⟨K, Ab, nb, cb, D⟩ : Opt)], OptOk W o := fun W hW o ho => by
        rcases List.mem_append.1 ho with h | h
        · exact (hokc o h).fr hW
        · rw [List.mem_singleton.1 h]; exact hob.fr hW
      have HALL := Lib.hid hall
      have HOWC := Lib.hid how
      have HBB := Lib.hid hbb
      have HOB := Lib.hid hob
      have HOKC := Lib.hid hokc
      have HFW := Lib.hid hFw
      have HBAD := Lib.hid hbad
      have HROC := Lib.hid (rdO_own hokc how)
      clear hall how hbb hob hokc hFw hbad hoo hFb HO1 HOW HRO HF1 HBX
      go_upto_region 20 with (fail)
      go_cut [12, 13] (fun s12 s13 wx => s12 = .slice none 0 0 ∧ s13 = .int .i64 2 ∧ Fr [] w3 wx)
      case first =>
        as_aux_lemma =>
          have hS0 : Fr [] w3 w3.drew := (Fr.refl _ _).drew
          refine wp_region_held_drew (S := fun W => Fr [] w3 W) (by kernel_rfl) hS0 (fun hS => ?_)
          clear hS0
          obtain ⟨B, hB⟩ : ∃ B, B = w3.heap.size := ⟨_, rfl⟩
          refine wpAnyH_take (i := 1) (v := ?_) rfl (by kernel_rfl) (by kernel_rfl) (by kernel_rfl) (fun _ _ _ h => h) (Or.inl ⟨by rfl, ?_⟩) hS ?_
          rotate_left 1
          · intro w' hSw; go_simp; with_reducible rfl
          try simp only [Act.put, List.getElem_toArray, List.getElem_cons_succ, List.getElem_cons_zero, List.setIfInBounds_toArray, List.set_cons_zero, List.set_cons_succ]
          refine wpAnyH_take (i := 3) (v := ?_) rfl (by kernel_rfl) (by kernel_rfl) (by kernel_rfl) (fun _ _ _ h => h) (Or.inl ⟨by rfl, ?_⟩) hS ?_
          rotate_left 1
          · intro w' hSw; have q0 := obx0 (k := K) (hSw.blk HBB.out (by simp)); have q1 := obx1 (k := K) (hSw.blk HBB.out (by simp)); go_simp; with_reducible rfl
          try simp only [Act.put, List.getElem_toArray, List.getElem_cons_succ, List.getElem_cons_zero, List.setIfInBounds_toArray, List.set_cons_zero, List.set_cons_succ]
          refine wpAnyH_ready (rs := [0, 4]) (by kernel_rfl) (by simp) ?_
          refine AllReadyH.cons rfl (fun K' hK => ?_) (AllReadyH.cons rfl (fun K' hK => ?_) AllReadyH.nil)
          · go_simp
            have own0 : World.ownsRow (w3.alloc (.cells #[] 35)).drew B 35 2 (.slice (some ⟨w3.heap.size, 0, none⟩) 0 0) 0 [] := own_ext (World.ownsRow_lit (e := 35) (size := 2) w3 #[] 0 (Nat.le_refl _) (Nat.zero_le _) rfl) (by rw [hB]; exact hS.size)
            have hSn : Fr [] w3 (w3.alloc (.cells #[] 35)).drew := hS.trans (show Fr [] w3.drew (w3.alloc (.cells #[] 35)).drew from ⟨rfl, rfl, rfl, ((Fr.refl [] w3).alloc _).size, ((Fr.refl [] w3).alloc _).block⟩)
            refine hK.out _ _ hSn (fun hS2 => ?_)
            clear hK K'
            replace hS := hSn
            clear hS2 hSn
            generalize (w3.alloc (.cells #[] 35)).drew = V0 at hS own0 ⊢
            try simp only [Act.put, List.getElem_toArray, List.getElem_cons_succ, List.getElem_cons_zero, List.setIfInBounds_toArray, List.set_cons_zero, List.set_cons_succ]
            refine wpAnyH_ready (rs := [2, 4]) (by kernel_rfl) (by simp) ?_
            refine AllReadyH.cons rfl (fun K' hK => ?_) (AllReadyH.cons rfl (fun K' hK => ?_) AllReadyH.nil)
            · obtain ⟨v1, V2, hr2, own1, hg2, _⟩ := app_run elO V0 B 24 _ 0 [] own0 A1 os.length c1 (CO os) (by rw [CO_length]; omega) (Rd.ownS (HOWC.out)|>.fr hS (by simp)) (CO_one os) hnil1 (by simp only [maxLen]; omega) (by omega) (by rw [hB]; exact hS.size)
              rw [Nat.zero_add, List.nil_append] at own1
              obtain ⟨A5, c5, rfl, _, _, _⟩ := own_slice own1
              have hF2 := fr_grown hg2
              have hSn : Fr [] w3 V2 := hS.trans2 hF2 (fun t ht => .inr (by have := (own0.lt t (by simpa using ht)).1; omega))
              refine step_app rfl _ _ _ rfl hr2 rfl rfl ?_
              refine hK.out _ _ hSn (fun hS2 => ?_)
              clear hK K'
              replace hS := hSn
              clear hS2 hSn
              clear hr2 hg2 hF2 own0
              try simp only [Act.put, List.getElem_toArray, List.getElem_cons_succ, List.getElem_cons_zero, List.setIfInBounds_toArray, List.set_cons_zero, List.set_cons_succ]
              refine wpAnyH_ready (rs := [4]) (by kernel_rfl) (by simp) ?_
              refine AllReadyH.cons rfl (fun K' hK => ?_) AllReadyH.nil
              go_simp
              have hbx1 : (V2.alloc (.cells #[.int .u8 K, .slice Ab nb cb] 35)).heap[V2.heap.size]? = some (.cells #[.int .u8 K, .slice Ab nb cb] 35 (0, 0)) := heap_alloc_new V2 _
              have hSn : Fr [] w3 (V2.alloc (.cells #[.int .u8 K, .slice Ab nb cb] 35)) := hS.trans (show Fr [] V2 (V2.alloc (.cells #[.int .u8 K, .slice Ab nb cb] 35)) from (Fr.refl _ _).alloc _)
              have own1 := own1.alloc (.cells #[.int .u8 K, .slice Ab nb cb] 35)
              refine hK.out _ _ hSn (fun hS2 => ?_)
              clear hK K'
              replace hS := hSn
              clear hS2 hSn
              generalize (V2.alloc (.cells #[.int .u8 K, .slice Ab nb cb] 35)) = V4 at hS hbx1 own1 ⊢
              try simp only [Act.put, List.getElem_toArray, List.getElem_cons_succ, List.getElem_cons_zero, List.setIfInBounds_toArray, List.set_cons_zero, List.set_cons_succ]
              refine wpAnyH_ready (rs := [5]) (by kernel_rfl) (by simp) ?_
              refine AllReadyH.cons rfl (fun K' hK => ?_) AllReadyH.nil
              obtain ⟨v2, V5, hr5, own2, hg5, _⟩ := app_run elO V4 B 24 _ os.length (CO os) own1 (some ⟨V2.heap.size, 0, none⟩) 1 1 [.int .u8 K, .slice Ab nb cb] rfl (rd_row hbx1) (by simp [Value.oneCell']) (by simp) (by simp only [maxLen]; omega) (by omega) (by rw [hB]; exact hS.size)
              rw [← CO_snoc os ⟨K, Ab, nb, cb, D⟩] at own2
              obtain ⟨A6, c6, rfl, _, _, _⟩ := own_slice own2
              have hF5 := fr_grown hg5
              have hSn : Fr [] w3 V5 := hS.trans2 hF5 (fun t ht => .inr (by have := (own1.lt t (by simpa using ht)).1; omega))
              refine step_app rfl _ _ _ rfl hr5 rfl rfl ?_
              refine hK.out _ _ hSn (fun hS2 => ?_)
              clear hK K'
              replace hS := hSn
              clear hS2 hSn
              clear hr5 hg5 hF5 own1
              try simp only [Act.put, List.getElem_toArray, List.getElem_cons_succ, List.getElem_cons_zero, List.setIfInBounds_toArray, List.set_cons_zero, List.set_cons_succ]
              refine wpAnyH_ready (rs := [6]) (by kernel_rfl) (by simp) ?_
              refine AllReadyH.cons rfl (fun K' hK => ?_) AllReadyH.nil
              go_simp
              have hls : (os ++ [(⟨K, Ab, nb, cb, D⟩ : Opt)]).length = os.length + 1 := by simp
              have hrO := rdO_own (HALL.out V5 hS) (by rw [hls]; exact own2)
              have h2 := flt_snoc (os := os) (o := ⟨K, Ab, nb, cb, D⟩) HBAD.out.bad
              refine (write_bad A6 (os.length + 1) c6 _ V5 hls hrO (by omega) (by rw [h2]; decide)).mono ?_
              rintro e V6 ⟨hF6, hcs⟩
              have he : e = .returned (.tuple #[.slice none 0 0, .int .i64 2]) := by
                rcases hcs with ⟨_, he⟩ | ⟨h0, _⟩ | ⟨h0, _⟩
                · rw [he, h2]; rfl
                · rw [h2] at h0; cases h0
                · rw [h2] at h0; cases h0
              subst he
              have hSn := hS.trans hF6
              refine hK.out _ _ hSn (fun hS2 => ?_)
              clear hK K'
              replace hS := hSn
              clear hS2 hSn
              try simp only [Act.put, List.getElem_toArray, List.getElem_cons_succ, List.getElem_cons_zero, List.setIfInBounds_toArray, List.set_cons_zero, List.set_cons_succ]
              refine wpAnyH_take (i := 7) (v := ?_) rfl (by kernel_rfl) (by kernel_rfl) (by kernel_rfl) (fun _ _ _ h => h) (Or.inl ⟨by rfl, ?_⟩) hS ?_
              rotate_left 1
              · intro w' hSw; go_simp; with_reducible rfl
              try simp only [Act.put, List.getElem_toArray, List.getElem_cons_succ, List.getElem_cons_zero, List.setIfInBounds_toArray, List.set_cons_zero, List.set_cons_succ]
              refine wpAnyH_take (i := 8) (v := ?_) rfl (by kernel_rfl) (by kernel_rfl) (by kernel_rfl) (fun _ _ _ h => h) (Or.inl ⟨by rfl, ?_⟩) hS ?_
              rotate_left 1
              · intro w' hSw; go_simp; with_reducible rfl
              try simp only [Act.put, List.getElem_toArray, List.getElem_cons_succ, List.getElem_cons_zero, List.setIfInBounds_toArray, List.set_cons_zero, List.set_cons_succ]
              refine wpAnyH_take (i := 9) (v := ?_) rfl (by kernel_rfl) (by kernel_rfl) (by kernel_rfl) (fun _ _ _ h => h) (Or.inl ⟨by rfl, ?_⟩) hS ?_
              rotate_left 1
              · intro w' hSw; go_simp; with_reducible rfl
              try simp only [Act.put, List.getElem_toArray, List.getElem_cons_succ, List.getElem_cons_zero, List.setIfInBounds_toArray, List.set_cons_zero, List.set_cons_succ]
              refine wpAnyH_take (i := 10) (v := ?_) rfl (by kernel_rfl) (by kernel_rfl) (by kernel_rfl) (fun _ _ _ h => h) (Or.inl ⟨by rfl, ?_⟩) hS ?_
              rotate_left 1
              · intro w' hSw; go_simp; with_reducible rfl
              try simp only [Act.put, List.getElem_toArray, List.getElem_cons_succ, List.getElem_cons_zero, List.setIfInBounds_toArray, List.set_cons_zero, List.set_cons_succ]
              refine wpAnyH_take (i := 11) (v := ?_) rfl (by kernel_rfl) (by kernel_rfl) (by kernel_rfl) (fun _ _ _ h => h) (Or.inl ⟨by rfl, ?_⟩) hS ?_
              rotate_left 1
              · intro w' hSw; go_simp; with_reducible rfl
              try simp only [Act.put, List.getElem_toArray, List.getElem_cons_succ, List.getElem_cons_zero, List.setIfInBounds_toArray, List.set_cons_zero, List.set_cons_succ]
              refine wpAnyH_done (by kernel_rfl) ?_ _
              go_wp2_with fail
              go_meet
              exact ⟨rfl, rfl, hS⟩
            · go_simp
              have hbx1 : (V0.alloc (.cells #[.int .u8 K, .slice Ab nb cb] 35)).heap[V0.heap.size]? = some (.cells #[.int .u8 K, .slice Ab nb cb] 35 (0, 0)) := heap_alloc_new V0 _
              have hSn : Fr [] w3 (V0.alloc (.cells #[.int .u8 K, .slice Ab nb cb] 35)) := hS.trans (show Fr [] V0 (V0.alloc (.cells #[.int .u8 K, .slice Ab nb cb] 35)) from (Fr.refl _ _).alloc _)
              have hne01 : ∀ k, (Value.slice (some ⟨w3.heap.size, 0, none⟩) 0 0).ownBlock = some k → k ≠ V0.heap.size := fun k hk => by have := (own0.lt k hk).2; omega
              have own0 := own0.alloc (.cells #[.int .u8 K, .slice Ab nb cb] 35)
              refine hK.out _ _ hSn (fun hS2 => ?_)
              clear hK K'
              replace hS := hSn
              clear hS2 hSn
              generalize (V0.alloc (.cells #[.int .u8 K, .slice Ab nb cb] 35)) = V4 at hS hbx1 own0 ⊢
              try simp only [Act.put, List.getElem_toArray, List.getElem_cons_succ, List.getElem_cons_zero, List.setIfInBounds_toArray, List.set_cons_zero, List.set_cons_succ]
              refine wpAnyH_ready (rs := [2]) (by kernel_rfl) (by simp) ?_
              refine AllReadyH.cons rfl (fun K' hK => ?_) AllReadyH.nil
              obtain ⟨v1, V2, hr2, own1, hg2, _⟩ := app_run elO V4 B 24 _ 0 [] own0 A1 os.length c1 (CO os) (by rw [CO_length]; omega) (Rd.ownS (HOWC.out)|>.fr hS (by simp)) (CO_one os) hnil1 (by simp only [maxLen]; omega) (by omega) (by rw [hB]; exact hS.size)
              rw [Nat.zero_add, List.nil_append] at own1
              obtain ⟨A5, c5, rfl, _, _, _⟩ := own_slice own1
              have hF2 := fr_grown hg2
              have hSn : Fr [] w3 V2 := hS.trans2 hF2 (fun t ht => .inr (by have := (own0.lt t (by simpa using ht)).1; omega))
              have hbx1 := hF2.blk hbx1 (fun hm => hne01 _ (by simpa using hm) rfl)
              refine step_app rfl _ _ _ rfl hr2 rfl rfl ?_
              refine hK.out _ _ hSn (fun hS2 => ?_)
              clear hK K'
              replace hS := hSn
              clear hS2 hSn
              clear hr2 hg2 hF2 own0
              try simp only [Act.put, List.getElem_toArray, List.getElem_cons_succ, List.getElem_cons_zero, List.setIfInBounds_toArray, List.set_cons_zero, List.set_cons_succ]
              refine wpAnyH_ready (rs := [5]) (by kernel_rfl) (by simp) ?_
              refine AllReadyH.cons rfl (fun K' hK => ?_) AllReadyH.nil
              obtain ⟨v2, V5, hr5, own2, hg5, _⟩ := app_run elO V2 B 24 _ os.length (CO os) own1 (some ⟨V0.heap.size, 0, none⟩) 1 1 [.int .u8 K, .slice Ab nb cb] rfl (rd_row hbx1) (by simp [Value.oneCell']) (by simp) (by simp only [maxLen]; omega) (by omega) (by rw [hB]; exact hS.size)
              rw [← CO_snoc os ⟨K, Ab, nb, cb, D⟩] at own2
              obtain ⟨A6, c6, rfl, _, _, _⟩ := own_slice own2
              have hF5 := fr_grown hg5
              have hSn : Fr [] w3 V5 := hS.trans2 hF5 (fun t ht => .inr (by have := (own1.lt t (by simpa using ht)).1; omega))
              refine step_app rfl _ _ _ rfl hr5 rfl rfl ?_
              refine hK.out _ _ hSn (fun hS2 => ?_)
              clear hK K'
              replace hS := hSn
              clear hS2 hSn
              clear hr5 hg5 hF5 own1
              try simp only [Act.put, List.getElem_toArray, List.getElem_cons_succ, List.getElem_cons_zero, List.setIfInBounds_toArray, List.set_cons_zero, List.set_cons_succ]
              refine wpAnyH_ready (rs := [6]) (by kernel_rfl) (by simp) ?_
              refine AllReadyH.cons rfl (fun K' hK => ?_) AllReadyH.nil
              go_simp
              have hls : (os ++ [(⟨K, Ab, nb, cb, D⟩ : Opt)]).length = os.length + 1 := by simp
              have hrO := rdO_own (HALL.out V5 hS) (by rw [hls]; exact own2)
              have h2 := flt_snoc (os := os) (o := ⟨K, Ab, nb, cb, D⟩) HBAD.out.bad
              refine (write_bad A6 (os.length + 1) c6 _ V5 hls hrO (by omega) (by rw [h2]; decide)).mono ?_
              rintro e V6 ⟨hF6, hcs⟩
              have he : e = .returned (.tuple #[.slice none 0 0, .int .i64 2]) := by
                rcases hcs with ⟨_, he⟩ | ⟨h0, _⟩ | ⟨h0, _⟩
                · rw [he, h2]; rfl
                · rw [h2] at h0; cases h0
                · rw [h2] at h0; cases h0
              subst he
              have hSn := hS.trans hF6
              refine hK.out _ _ hSn (fun hS2 => ?_)
              clear hK K'
              replace hS := hSn
              clear hS2 hSn
              try simp only [Act.put, List.getElem_toArray, List.getElem_cons_succ, List.getElem_cons_zero, List.setIfInBounds_toArray, List.set_cons_zero, List.set_cons_succ]
              refine wpAnyH_take (i := 7) (v := ?_) rfl (by kernel_rfl) (by kernel_rfl) (by kernel_rfl) (fun _ _ _ h => h) (Or.inl ⟨by rfl, ?_⟩) hS ?_
              rotate_left 1
              · intro w' hSw; go_simp; with_reducible rfl
              try simp only [Act.put, List.getElem_toArray, List.getElem_cons_succ, List.getElem_cons_zero, List.setIfInBounds_toArray, List.set_cons_zero, List.set_cons_succ]
              refine wpAnyH_take (i := 8) (v := ?_) rfl (by kernel_rfl) (by kernel_rfl) (by kernel_rfl) (fun _ _ _ h => h) (Or.inl ⟨by rfl, ?_⟩) hS ?_
              rotate_left 1
              · intro w' hSw; go_simp; with_reducible rfl
              try simp only [Act.put, List.getElem_toArray, List.getElem_cons_succ, List.getElem_cons_zero, List.setIfInBounds_toArray, List.set_cons_zero, List.set_cons_succ]
              refine wpAnyH_take (i := 9) (v := ?_) rfl (by kernel_rfl) (by kernel_rfl) (by kernel_rfl) (fun _ _ _ h => h) (Or.inl ⟨by rfl, ?_⟩) hS ?_
              rotate_left 1
              · intro w' hSw; go_simp; with_reducible rfl
              try simp only [Act.put, List.getElem_toArray, List.getElem_cons_succ, List.getElem_cons_zero, List.setIfInBounds_toArray, List.set_cons_zero, List.set_cons_succ]
              refine wpAnyH_take (i := 10) (v := ?_) rfl (by kernel_rfl) (by kernel_rfl) (by kernel_rfl) (fun _ _ _ h => h) (Or.inl ⟨by rfl, ?_⟩) hS ?_
              rotate_left 1
              · intro w' hSw; go_simp; with_reducible rfl
              try simp only [Act.put, List.getElem_toArray, List.getElem_cons_succ, List.getElem_cons_zero, List.setIfInBounds_toArray, List.set_cons_zero, List.set_cons_succ]
              refine wpAnyH_take (i := 11) (v := ?_) rfl (by kernel_rfl) (by kernel_rfl) (by kernel_rfl) (fun _ _ _ h => h) (Or.inl ⟨by rfl, ?_⟩) hS ?_
              rotate_left 1
              · intro w' hSw; go_simp; with_reducible rfl
              try simp only [Act.put, List.getElem_toArray, List.getElem_cons_succ, List.getElem_cons_zero, List.setIfInBounds_toArray, List.set_cons_zero, List.set_cons_succ]
              refine wpAnyH_done (by kernel_rfl) ?_ _
              go_wp2_with fail
              go_meet
              exact ⟨rfl, rfl, hS⟩
          · go_simp
            have hbx1 : (w3.alloc (.cells #[.int .u8 K, .slice Ab nb cb] 35)).drew.heap[w3.heap.size]? = some (.cells #[.int .u8 K, .slice Ab nb cb] 35 (0, 0)) := heap_alloc_new w3 _
            have hSn : Fr [] w3 (w3.alloc (.cells #[.int .u8 K, .slice Ab nb cb] 35)).drew := hS.trans (show Fr [] w3.drew (w3.alloc (.cells #[.int .u8 K, .slice Ab nb cb] 35)).drew from ⟨rfl, rfl, rfl, ((Fr.refl [] w3).alloc _).size, ((Fr.refl [] w3).alloc _).block⟩)
            refine hK.out _ _ hSn (fun hS2 => ?_)
            clear hK K'
            replace hS := hSn
            clear hS2 hSn
            generalize (w3.alloc (.cells #[.int .u8 K, .slice Ab nb cb] 35)).drew = V4 at hS hbx1 ⊢
            try simp only [Act.put, List.getElem_toArray, List.getElem_cons_succ, List.getElem_cons_zero, List.setIfInBounds_toArray, List.set_cons_zero, List.set_cons_succ]
            refine wpAnyH_ready (rs := [0]) (by kernel_rfl) (by simp) ?_
            refine AllReadyH.cons rfl (fun K' hK => ?_) AllReadyH.nil
            go_simp
            have own0 : World.ownsRow (V4.alloc (.cells #[] 35)) B 35 2 (.slice (some ⟨V4.heap.size, 0, none⟩) 0 0) 0 [] := own_ext (World.ownsRow_lit (e := 35) (size := 2) V4 #[] 0 (Nat.le_refl _) (Nat.zero_le _) rfl) (by rw [hB]; exact hS.size)
            have hSn : Fr [] w3 (V4.alloc (.cells #[] 35)) := hS.trans (show Fr [] V4 (V4.alloc (.cells #[] 35)) from (Fr.refl _ _).alloc _)
            have hne01 : ∀ k, (Value.slice (some ⟨V4.heap.size, 0, none⟩) 0 0).ownBlock = some k → k ≠ w3.heap.size := fun k hk => by have := lt_of_block hbx1; simp [Value.ownBlock] at hk; omega
            have hbx1 := ((Fr.refl [] V4).alloc (.cells #[] 35)).blk hbx1 (by simp)
            refine hK.out _ _ hSn (fun hS2 => ?_)
            clear hK K'
            replace hS := hSn
            clear hS2 hSn
            generalize (V4.alloc (.cells #[] 35)) = V0 at hS own0 hbx1 ⊢
            try simp only [Act.put, List.getElem_toArray, List.getElem_cons_succ, List.getElem_cons_zero, List.setIfInBounds_toArray, List.set_cons_zero, List.set_cons_succ]
            refine wpAnyH_ready (rs := [2]) (by kernel_rfl) (by simp) ?_
            refine AllReadyH.cons rfl (fun K' hK => ?_) AllReadyH.nil
            obtain ⟨v1, V2, hr2, own1, hg2, _⟩ := app_run elO V0 B 24 _ 0 [] own0 A1 os.length c1 (CO os) (by rw [CO_length]; omega) (Rd.ownS (HOWC.out)|>.fr hS (by simp)) (CO_one os) hnil1 (by simp only [maxLen]; omega) (by omega) (by rw [hB]; exact hS.size)
            rw [Nat.zero_add, List.nil_append] at own1
            obtain ⟨A5, c5, rfl, _, _, _⟩ := own_slice own1
            have hF2 := fr_grown hg2
            have hSn : Fr [] w3 V2 := hS.trans2 hF2 (fun t ht => .inr (by have := (own0.lt t (by simpa using ht)).1; omega))
            have hbx1 := hF2.blk hbx1 (fun hm => hne01 _ (by simpa using hm) rfl)
            refine step_app rfl _ _ _ rfl hr2 rfl rfl ?_
            refine hK.out _ _ hSn (fun hS2 => ?_)
            clear hK K'
            replace hS := hSn
            clear hS2 hSn
            clear hr2 hg2 hF2 own0
            try simp only [Act.put, List.getElem_toArray, List.getElem_cons_succ, List.getElem_cons_zero, List.setIfInBounds_toArray, List.set_cons_zero, List.set_cons_succ]
            refine wpAnyH_ready (rs := [5]) (by kernel_rfl) (by simp) ?_
            refine AllReadyH.cons rfl (fun K' hK => ?_) AllReadyH.nil
            obtain ⟨v2, V5, hr5, own2, hg5, _⟩ := app_run elO V2 B 24 _ os.length (CO os) own1 (some ⟨w3.heap.size, 0, none⟩) 1 1 [.int .u8 K, .slice Ab nb cb] rfl (rd_row hbx1) (by simp [Value.oneCell']) (by simp) (by simp only [maxLen]; omega) (by omega) (by rw [hB]; exact hS.size)
            rw [← CO_snoc os ⟨K, Ab, nb, cb, D⟩] at own2
            obtain ⟨A6, c6, rfl, _, _, _⟩ := own_slice own2
            have hF5 := fr_grown hg5
            have hSn : Fr [] w3 V5 := hS.trans2 hF5 (fun t ht => .inr (by have := (own1.lt t (by simpa using ht)).1; omega))
            refine step_app rfl _ _ _ rfl hr5 rfl rfl ?_
            refine hK.out _ _ hSn (fun hS2 => ?_)
            clear hK K'
            replace hS := hSn
            clear hS2 hSn
            clear hr5 hg5 hF5 own1
            try simp only [Act.put, List.getElem_toArray, List.getElem_cons_succ, List.getElem_cons_zero, List.setIfInBounds_toArray, List.set_cons_zero, List.set_cons_succ]
            refine wpAnyH_ready (rs := [6]) (by kernel_rfl) (by simp) ?_
            refine AllReadyH.cons rfl (fun K' hK => ?_) AllReadyH.nil
            go_simp
            have hls : (os ++ [(⟨K, Ab, nb, cb, D⟩ : Opt)]).length = os.length + 1 := by simp
            have hrO := rdO_own (HALL.out V5 hS) (by rw [hls]; exact own2)
            have h2 := flt_snoc (os := os) (o := ⟨K, Ab, nb, cb, D⟩) HBAD.out.bad
            refine (write_bad A6 (os.length + 1) c6 _ V5 hls hrO (by omega) (by rw [h2]; decide)).mono ?_
            rintro e V6 ⟨hF6, hcs⟩
            have he : e = .returned (.tuple #[.slice none 0 0, .int .i64 2]) := by
              rcases hcs with ⟨_, he⟩ | ⟨h0, _⟩ | ⟨h0, _⟩
              · rw [he, h2]; rfl
              · rw [h2] at h0; cases h0
              · rw [h2] at h0; cases h0
            subst he
            have hSn := hS.trans hF6
            refine hK.out _ _ hSn (fun hS2 => ?_)
            clear hK K'
            replace hS := hSn
            clear hS2 hSn
            try simp only [Act.put, List.getElem_toArray, List.getElem_cons_succ, List.getElem_cons_zero, List.setIfInBounds_toArray, List.set_cons_zero, List.set_cons_succ]
            refine wpAnyH_take (i := 7) (v := ?_) rfl (by kernel_rfl) (by kernel_rfl) (by kernel_rfl) (fun _ _ _ h => h) (Or.inl ⟨by rfl, ?_⟩) hS ?_
            rotate_left 1
            · intro w' hSw; go_simp; with_reducible rfl
            try simp only [Act.put, List.getElem_toArray, List.getElem_cons_succ, List.getElem_cons_zero, List.setIfInBounds_toArray, List.set_cons_zero, List.set_cons_succ]
            refine wpAnyH_take (i := 8) (v := ?_) rfl (by kernel_rfl) (by kernel_rfl) (by kernel_rfl) (fun _ _ _ h => h) (Or.inl ⟨by rfl, ?_⟩) hS ?_
            rotate_left 1
            · intro w' hSw; go_simp; with_reducible rfl
            try simp only [Act.put, List.getElem_toArray, List.getElem_cons_succ, List.getElem_cons_zero, List.setIfInBounds_toArray, List.set_cons_zero, List.set_cons_succ]
            refine wpAnyH_take (i := 9) (v := ?_) rfl (by kernel_rfl) (by kernel_rfl) (by kernel_rfl) (fun _ _ _ h => h) (Or.inl ⟨by rfl, ?_⟩) hS ?_
            rotate_left 1
            · intro w' hSw; go_simp; with_reducible rfl
            try simp only [Act.put, List.getElem_toArray, List.getElem_cons_succ, List.getElem_cons_zero, List.setIfInBounds_toArray, List.set_cons_zero, List.set_cons_succ]
            refine wpAnyH_take (i := 10) (v := ?_) rfl (by kernel_rfl) (by kernel_rfl) (by kernel_rfl) (fun _ _ _ h => h) (Or.inl ⟨by rfl, ?_⟩) hS ?_
            rotate_left 1
            · intro w' hSw; go_simp; with_reducible rfl
            try simp only [Act.put, List.getElem_toArray, List.getElem_cons_succ, List.getElem_cons_zero, List.setIfInBounds_toArray, List.set_cons_zero, List.set_cons_succ]
            refine wpAnyH_take (i := 11) (v := ?_) rfl (by kernel_rfl) (by kernel_rfl) (by kernel_rfl) (fun _ _ _ h => h) (Or.inl ⟨by rfl, ?_⟩) hS ?_
            rotate_left 1
            · intro w' hSw; go_simp; with_reducible rfl
            try simp only [Act.put, List.getElem_toArray, List.getElem_cons_succ, List.getElem_cons_zero, List.setIfInBounds_toArray, List.set_cons_zero, List.set_cons_succ]
            refine wpAnyH_done (by kernel_rfl) ?_ _
            go_wp2_with fail
            go_meet
            exact ⟨rfl, rfl, hS⟩
      case rest =>
        as_aux_lemma =>
          obtain ⟨rfl, rfl, hF4⟩ := hcut
          obtain ⟨w4, rfl⟩ : ∃ w4, w4 = wc := ⟨_, rfl⟩
          have hob4 := HOB.out.fr hF4
          have hb4 := hF4.blk HBB.out (by simp)
          have q0 := obx0 (k := K) hb4
          have q1 := obx1 (k := K) hb4
          have cR := fun W (hW : Fr [] w4 W) => right6_any K Ab nb cb D W hob4.len (hob4.rd.fr hW (by simp)) hob4.n hob4.k
          rw [HBAD.out.bad] at cR
          have cO := fun W (hW : Fr [] w4 W) => route_arg K Ab nb cb D W hob4.len (hob4.rd.fr hW (by simp)) hob4.n hob4.k HBAD.out.rts
          have cC := fun W (hW : Fr [] w4 W) => record_arg K Ab nb cb D 1 W hob4.len (hob4.rd.fr hW (by simp)) hob4.n hob4.k HBAD.out.rts
          unfold OV at cR cO cC
          have CR := Lib.hid cR
          have CO_ := Lib.hid cO
          have CC := Lib.hid cC
          have HB4 := Lib.hid hb4
          have HF4 := Lib.hid hF4
          have HOB4 := Lib.hid hob4
          clear cR cO cC hF4 hb4 hob4
          go_wp2_with fail
          refine (CR.out _ (Fr.refl _ _)).mono ?_
          rintro e w5 ⟨rfl, hF5⟩
          have q0 := hF5.cell q0 (by simp)
          have q1 := hF5.cell q1 (by simp)
          clear CR
          go_wp2_with fail
          refine (CO_.out _ hF5).mono ?_
          rintro e w6 ⟨rfl, hF6⟩
          have q0 := hF6.cell q0 (by simp)
          have q1 := hF6.cell q1 (by simp)
          have hF56 := hF5.trans hF6
          clear CO_ hF5 hF6
          go_wp2_with fail
          refine (CC.out _ hF56).mono ?_
          rintro e w7 ⟨rfl, hF7⟩
          unfold OV
          have HF7 := Lib.hid (hF56.trans hF7)
          clear CC hF56 hF7 q0 q1
          have hw : (way : Int) % 8 = (q : Int) := by omega
          obtain ⟨z, hz⟩ : ∃ z, z = decide ((1 < q ∧ q ≠ 6) ∧ N + 2 + nb ≤ 40) := ⟨_, rfl⟩
          have HZ := Lib.hid hz
          have HQ := Lib.hid hq
          have hN40 : N ≤ 40 := by rw [HN.out]; exact H40.out
          have hnb : nb ≤ 300 := by have := HOB4.out.len; have := HBAD.out.len; simp only at *; omega
          have wN2 : IntKind.i64.wrap ((N : Int) + 2) = (N : Int) + 2 := IntWalk.i64_in _ (by omega)
          have wNn : IntKind.i64.wrap ((N : Int) + 2 + (nb : Int)) = (N : Int) + 2 + (nb : Int) := IntWalk.i64_in _ (by omega)
          clear hz hq
          go_upto_region 28 with (fail)
          have hF8 : Fr [] w7 (w7.alloc (.cells #[.int .u8 0, .slice none 0 0] 35)) := (Fr.refl _ _).alloc _
          have hb8 := hF8.blk (HF7.out.blk HB4.out (by simp)) (by simp)
          have HF8 := Lib.hid (HF7.out.trans hF8)
          clear hF8 HF7
          generalize w7.alloc (.cells #[.int .u8 0, .slice none 0 0] 35) = w8 at hb8 HF8 ⊢
          have q1 := obx1 (k := K) hb8
          have HB8 := Lib.hid hb8
          clear hb8
          go_cut [157] (fun s157 wx => s157 = .bool z ∧ w8 = wx)
          case first =>
            as_aux_lemma =>
              by_cases h1 : 1 < q
              · have d1 : decide ((1 : Int) < (q : Int)) = true := decide_eq_true (by omega)
                have d1' : decide (1 < q) = true := decide_eq_true h1
                by_cases h6 : q = 6
                · have e6 : ((q : Int) != 6) = false := by rw [h6]; rfl
                  have HZ0 := Lib.hid (show z = false by rw [HZ.out]; simp [h6])
                  clear h1 h6
                  go_wp2_with fail
                  go_meet
                  exact ⟨by rw [HZ0.out], rfl⟩
                · have e6 : ((q : Int) != 6) = true := by rw [bne_iff_ne]; omega
                  by_cases h4 : N + 2 + nb ≤ 40
                  · have d3 : decide ((N : Int) + 2 + (nb : Int) ≤ 40) = true := decide_eq_true (by omega)
                    have HZ0 := Lib.hid (show z = true by rw [HZ.out]; simp [h1, h6, h4])
                    clear h1 h6 h4
                    go_wp2_with fail
                    go_meet
                    exact ⟨by rw [HZ0.out], rfl⟩
                  · have d3 : decide ((N : Int) + 2 + (nb : Int) ≤ 40) = false := decide_eq_false (by omega)
                    have HZ0 := Lib.hid (show z = false by rw [HZ.out]; simp [h4])
                    clear h1 h6 h4
                    go_wp2_with fail
                    go_meet
                    exact ⟨by rw [HZ0.out], rfl⟩
              · have d1 : decide ((1 : Int) < (q : Int)) = false := decide_eq_false (by omega)
                have d1' : decide (1 < q) = false := decide_eq_false h1
                have HZ0 := Lib.hid (show z = false by rw [HZ.out]; simp; omega)
                clear h1
                go_wp2_with fail
                go_meet
                exact ⟨by rw [HZ0.out], rfl⟩
          case rest =>
            as_aux_lemma =>
              obtain ⟨rfl, rfl⟩ := hcut
              clear hw
              go_upto_if 157 with (fail)
              go_cut [] (fun wx => Fr [] w8 wx)
              case first =>
                as_aux_lemma =>
                  cases z with
                  | false =>
                    go_wp2_with fail
                    go_meet
                    exact Fr.refl _ _
                  | true =>
                    have hzz := of_decide_eq_true HZ.out.symm
                    have hRO8 := HROC.out.fr (HF4.out.trans HF8.out)
                    have cW := write_good A1 os.length c1 os L w8 rfl hRO8 (by omega) HM1.out HOK.out HTW.out H40.out hRO8.len
                    have CW := Lib.hid cW
                    have HZZ := Lib.hid hzz
                    clear cW hRO8 hzz
                    go_wp2_with fail
                    refine CW.out.mono ?_
                    rintro e w9 ⟨A7, c7, rfl, o7, hF9⟩
                    clear CW
                    have hzz := HZZ.out
                    have hK2 : 2 ≤ K := HBAD.out.two hzz.1.1 hzz.1.2
                    have pN := pad4_len (flatP L)
                    rw [← HN.out] at pN
                    have hr7 := (Rd.own o7).take N
                    rw [B8_take, HN.out, pad4_take] at hr7
                    have hnn7 : A7 = none → N = 0 := fun hA => by
                      rcases o7.2 with ⟨hv, h0⟩ | ⟨g', cap, cur, hv, _⟩
                      · omega
                      · injection hv with h1; rw [hA] at h1; cases h1
                    have hc7 : (pad4 (flatP L)).length ≤ c7 := by obtain ⟨_, _, hv, h1, _⟩ := own_slice o7; injection hv with _ _ h3; subst h3; exact h1
                    have j1 : (0 : Int) ≤ (N : Int) ∧ (N : Int) ≤ (c7 : Int) := by omega
                    have j2 : (0 : Int) ≤ (N : Int) ∧ (N : Int) ≤ (N : Int) ∧ (N : Int) ≤ (c7 : Int) := by omega
                    generalize (pad4 (flatP L)).length = pl at hc7 pN ⊢
                    have HR7 := Lib.hid hr7
                    have HF9 := Lib.hid hF9
                    have HK2 := Lib.hid hK2
                    have w2n : IntKind.i64.wrap (2 + (nb : Int)) = 2 + (nb : Int) := IntWalk.i64_in _ (by omega)
                    have hnb2 : nb ≤ 38 := by omega
                    have hsum : N + 2 + nb ≤ 40 := hzz.2
                    have w2u : IntKind.u8.wrap (2 + (nb : Int)) = 2 + (nb : Int) := u8_in (by omega) (by omega)
                    clear hr7 o7 hF9 hzz hK2
                    go_upto_region 30 with (fail)
                    have hS0 : Fr [] w9 w9.drew := (Fr.refl _ _).drew
                    refine wp_region_held_drew (S := fun W => Fr [] w9 W) (by kernel_rfl) hS0 (fun hS => ?_)
                    clear hS0
                    refine wpAnyH_take (i := 0) (v := ?_) rfl (by kernel_rfl) (by kernel_rfl) (by kernel_rfl) (fun _ _ _ h => h) (Or.inl ⟨by rfl, ?_⟩) hS ?_
                    rotate_left 1
                    · intro w' hSw; go_simp; with_reducible rfl
                    try simp only [Act.put, List.getElem_toArray, List.getElem_cons_zero, List.setIfInBounds_toArray, List.set_cons_zero, List.set_cons_succ]
                    refine wpAnyH_take (i := 1) (v := ?_) rfl (by kernel_rfl) (by kernel_rfl) (by kernel_rfl) (fun _ _ _ h => h) (Or.inl ⟨by rfl, ?_⟩) hS ?_
                    rotate_left 1
                    · intro w' hSw; go_simp; with_reducible rfl
                    try simp only [Act.put, List.getElem_toArray, List.getElem_cons_succ, List.getElem_cons_zero, List.setIfInBounds_toArray, List.set_cons_zero, List.set_cons_succ]
                    refine wpAnyH_take (i := 2) (v := ?_) rfl (by kernel_rfl) (by kernel_rfl) (by kernel_rfl) (fun _ _ _ h => h) (Or.inl ⟨by rfl, ?_⟩) hS ?_
                    rotate_left 1
                    · intro w' hSw; go_simp; with_reducible rfl
                    try simp only [Act.put, List.getElem_toArray, List.getElem_cons_succ, List.getElem_cons_zero, List.setIfInBounds_toArray, List.set_cons_zero, List.set_cons_succ]
                    refine wpAnyH_take (i := 3) (v := ?_) rfl (by kernel_rfl) (by kernel_rfl) (by kernel_rfl) (fun _ _ _ h => h) (Or.inl ⟨by rfl, ?_⟩) hS ?_
                    rotate_left 1
                    · intro w' hSw; go_simp; first | with_reducible rfl | (rw [if_pos j1]) | (rw [if_pos j2])
                    try simp only [Act.put, List.getElem_toArray, List.getElem_cons_succ, List.getElem_cons_zero, List.setIfInBounds_toArray, List.set_cons_zero, List.set_cons_succ]
                    refine wpAnyH_take (i := 4) (v := ?_) rfl (by kernel_rfl) (by kernel_rfl) (by kernel_rfl) (fun _ _ _ h => h) (Or.inl ⟨by rfl, ?_⟩) hS ?_
                    rotate_left 1
                    · intro w' hSw; have q0 := obx0 (k := K) (hSw.blk (HF9.out.blk HB8.out (by simp)) (by simp)); have q1 := obx1 (k := K) (hSw.blk (HF9.out.blk HB8.out (by simp)) (by simp)); go_simp; with_reducible rfl
                    try simp only [Act.put, List.getElem_toArray, List.getElem_cons_succ, List.getElem_cons_zero, List.setIfInBounds_toArray, List.set_cons_zero, List.set_cons_succ]
                    refine wpAnyH_take (i := 5) (v := ?_) rfl (by kernel_rfl) (by kernel_rfl) (by kernel_rfl) (fun _ _ _ h => h) (Or.inl ⟨by rfl, ?_⟩) hS ?_
                    rotate_left 1
                    · intro w' hSw; have q0 := obx0 (k := K) (hSw.blk (HF9.out.blk HB8.out (by simp)) (by simp)); have q1 := obx1 (k := K) (hSw.blk (HF9.out.blk HB8.out (by simp)) (by simp)); go_simp; with_reducible rfl
                    try simp only [Act.put, List.getElem_toArray, List.getElem_cons_succ, List.getElem_cons_zero, List.setIfInBounds_toArray, List.set_cons_zero, List.set_cons_succ]
                    refine wpAnyH_take (i := 6) (v := ?_) rfl (by kernel_rfl) (by kernel_rfl) (by kernel_rfl) (fun _ _ _ h => h) (Or.inl ⟨by rfl, ?_⟩) hS ?_
                    rotate_left 1
                    · intro w' hSw; have q0 := obx0 (k := K) (hSw.blk (HF9.out.blk HB8.out (by simp)) (by simp)); have q1 := obx1 (k := K) (hSw.blk (HF9.out.blk HB8.out (by simp)) (by simp)); go_simp; with_reducible rfl
                    try simp only [Act.put, List.getElem_toArray, List.getElem_cons_succ, List.getElem_cons_zero, List.setIfInBounds_toArray, List.set_cons_zero, List.set_cons_succ]
                    refine wpAnyH_take (i := 7) (v := ?_) rfl (by kernel_rfl) (by kernel_rfl) (by kernel_rfl) (fun _ _ _ h => h) (Or.inl ⟨by rfl, ?_⟩) hS ?_
                    rotate_left 1
                    · intro w' hSw; have q0 := obx0 (k := K) (hSw.blk (HF9.out.blk HB8.out (by simp)) (by simp)); have q1 := obx1 (k := K) (hSw.blk (HF9.out.blk HB8.out (by simp)) (by simp)); go_simp; with_reducible rfl
                    try simp only [Act.put, List.getElem_toArray, List.getElem_cons_succ, List.getElem_cons_zero, List.setIfInBounds_toArray, List.set_cons_zero, List.set_cons_succ]
                    refine wpAnyH_take (i := 8) (v := ?_) rfl (by kernel_rfl) (by kernel_rfl) (by kernel_rfl) (fun _ _ _ h => h) (Or.inl ⟨by rfl, ?_⟩) hS ?_
                    rotate_left 1
                    · intro w' hSw; have q0 := obx0 (k := K) (hSw.blk (HF9.out.blk HB8.out (by simp)) (by simp)); have q1 := obx1 (k := K) (hSw.blk (HF9.out.blk HB8.out (by simp)) (by simp)); go_simp; with_reducible rfl
                    try simp only [Act.put, List.getElem_toArray, List.getElem_cons_succ, List.getElem_cons_zero, List.setIfInBounds_toArray, List.set_cons_zero, List.set_cons_succ]
                    refine wpAnyH_take (i := 9) (v := ?_) rfl (by kernel_rfl) (by kernel_rfl) (by kernel_rfl) (fun _ _ _ h => h) (Or.inl ⟨by rfl, ?_⟩) hS ?_
                    rotate_left 1
                    · intro w' hSw; have q0 := obx0 (k := K) (hSw.blk (HF9.out.blk HB8.out (by simp)) (by simp)); have q1 := obx1 (k := K) (hSw.blk (HF9.out.blk HB8.out (by simp)) (by simp)); go_simp; with_reducible rfl
                    try simp only [Act.put, List.getElem_toArray, List.getElem_cons_succ, List.getElem_cons_zero, List.setIfInBounds_toArray, List.set_cons_zero, List.set_cons_succ]
                    refine wpAnyH_take (i := 10) (v := ?_) rfl (by kernel_rfl) (by kernel_rfl) (by kernel_rfl) (fun _ _ _ h => h) (Or.inl ⟨by rfl, ?_⟩) hS ?_
                    rotate_left 1
                    · intro w' hSw; have q0 := obx0 (k := K) (hSw.blk (HF9.out.blk HB8.out (by simp)) (by simp)); have q1 := obx1 (k := K) (hSw.blk (HF9.out.blk HB8.out (by simp)) (by simp)); go_simp; with_reducible rfl
                    try simp only [Act.put, List.getElem_toArray, List.getElem_cons_succ, List.getElem_cons_zero, List.setIfInBounds_toArray, List.set_cons_zero, List.set_cons_succ]
                    refine wpAnyH_take (i := 13) (v := ?_) rfl (by kernel_rfl) (by kernel_rfl) (by kernel_rfl) (fun _ _ _ h => h) (Or.inl ⟨by rfl, ?_⟩) hS ?_
                    rotate_left 1
                    · intro w' hSw; have q0 := obx0 (k := K) (hSw.blk (HF9.out.blk HB8.out (by simp)) (by simp)); have q1 := obx1 (k := K) (hSw.blk (HF9.out.blk HB8.out (by simp)) (by simp)); go_simp; with_reducible rfl
                    try simp only [Act.put, List.getElem_toArray, List.getElem_cons_succ, List.getElem_cons_zero, List.setIfInBounds_toArray, List.set_cons_zero, List.set_cons_succ]
                    refine wpAnyH_take (i := 14) (v := ?_) rfl (by kernel_rfl) (by kernel_rfl) (by kernel_rfl) (fun _ _ _ h => h) (Or.inl ⟨by rfl, ?_⟩) hS ?_
                    rotate_left 1
                    · intro w' hSw; have q0 := obx0 (k := K) (hSw.blk (HF9.out.blk HB8.out (by simp)) (by simp)); have q1 := obx1 (k := K) (hSw.blk (HF9.out.blk HB8.out (by simp)) (by simp)); go_simp; with_reducible rfl
                    try simp only [Act.put, List.getElem_toArray, List.getElem_cons_succ, List.getElem_cons_zero, List.setIfInBounds_toArray, List.set_cons_zero, List.set_cons_succ]
                    refine wpAnyH_ready (rs := [11]) (by kernel_rfl) (by simp) ?_
                    refine AllReadyH.cons rfl (fun K' hK => ?_) AllReadyH.nil
                    go_simp
                    have eK : Value.int .u8 (2 + (nb : Int)) = .int .u8 ((UInt8.ofNat (2 + nb)).toNat : Int) := by rw [ofNat_toNat (by omega)]; rfl
                    have hrn : Rd (w9.alloc (.cells #[.int .u8 K, .int .u8 (2 + (nb : Int))] 5)).drew (some ⟨w9.heap.size, 0, none⟩) (B8 [UInt8.ofNat K, UInt8.ofNat (2 + nb)]) := by
                      have := rd_new w9 [UInt8.ofNat K, UInt8.ofNat (2 + nb)] 5
                      rw [show (B8 [UInt8.ofNat K, UInt8.ofNat (2 + nb)]).toArray = #[.int .u8 K, .int .u8 (2 + (nb : Int))] by rw [eK]; simp only [B8, List.map_cons, List.map_nil, ofNat_toNat HBAD.out.k]] at this
                      exact this
                    have hSn : Fr [] w9 (w9.alloc (.cells #[.int .u8 K, .int .u8 (2 + (nb : Int))] 5)).drew := ((Fr.refl [] w9).alloc _).drew
                    refine hK.out _ _ hSn (fun hS2 => ?_)
                    clear hK K' hS hS2
                    generalize (w9.alloc (.cells #[.int .u8 K, .int .u8 (2 + (nb : Int))] 5)).drew = V1 at hrn hSn ⊢
                    have hS := hSn
                    clear hSn
                    try simp only [Act.put, List.getElem_toArray, List.getElem_cons_succ, List.getElem_cons_zero, List.setIfInBounds_toArray, List.set_cons_zero, List.set_cons_succ]
                    refine wpAnyH_ready (rs := [12]) (by kernel_rfl) (by simp) ?_
                    refine AllReadyH.cons rfl (fun K' hK => ?_) AllReadyH.nil
                    obtain ⟨v2, V2, hr2, own2, hF2⟩ := afo_run el8 V1 27 A7 N (B8 (flatP L)) (by rw [B8_length]; exact HN.out.symm) (HR7.out.fr hS (by simp)) hnn7 (some ⟨w9.heap.size, 0, none⟩) 2 2 (B8 [UInt8.ofNat K, UInt8.ofNat (2 + nb)]) rfl hrn (B8_one _) (by simp) (by decide) (by simp only [maxLen]; omega) (by omega)
                    obtain ⟨A8, c8, rfl, _, _, _⟩ := own_slice own2
                    have hSn := hS.trans hF2
                    refine step_app rfl _ _ _ rfl hr2 rfl rfl ?_
                    refine hK.out _ _ hSn (fun hS2 => ?_)
                    clear hK K' hS2 hr2 hrn
                    try simp only [Act.put, List.getElem_toArray, List.getElem_cons_succ, List.getElem_cons_zero, List.setIfInBounds_toArray, List.set_cons_zero, List.set_cons_succ]
                    refine wpAnyH_ready (rs := [15]) (by kernel_rfl) (by simp) ?_
                    refine AllReadyH.cons rfl (fun K' hK => ?_) AllReadyH.nil
                    have hob5 := HOB4.out.fr (HF8.out.trans (HF9.out.trans hSn))
                    obtain ⟨v3, V3, hr3, own3, hg3, _⟩ := app_run el8 V2 V1.heap.size 27 _ (N + 2) _ own2 Ab nb cb (B8 D) (by rw [B8_length]; have := hob5.len; simp only at this; omega) hob5.rd (B8_one _) hob5.nil (by simp only [maxLen]; omega) (by omega) hF2.size
                    obtain ⟨A9, c9, rfl, hn9, hm9, _⟩ := own_slice own3
                    have hSm : Fr [] w9 V3 := hSn.trans2 (fr_grown hg3) (fun t ht => .inr (by have h1 := (own2.lt t (by simpa using ht)).1; have := hS.size; omega))
                    refine step_app rfl _ _ _ rfl hr3 rfl rfl ?_
                    refine hK.out _ _ hSm (fun hS2 => ?_)
                    clear hK K' hS2 hr3
                    try simp only [Act.put, List.getElem_toArray, List.getElem_cons_succ, List.getElem_cons_zero, List.setIfInBounds_toArray, List.set_cons_zero, List.set_cons_succ]
                    refine wpAnyH_take (i := 16) (v := ?_) rfl (by kernel_rfl) (by kernel_rfl) (by kernel_rfl) (fun _ _ _ h => h) (Or.inl ⟨by rfl, ?_⟩) hSm ?_
                    rotate_left 1
                    · intro w' hSw; go_simp; with_reducible rfl
                    try simp only [Act.put, List.getElem_toArray, List.getElem_cons_succ, List.getElem_cons_zero, List.setIfInBounds_toArray, List.set_cons_zero, List.set_cons_succ]
                    refine wpAnyH_done (by kernel_rfl) ?_ _
                    obtain ⟨X, hX⟩ : ∃ X, X = flatP L ++ (UInt8.ofNat K :: UInt8.ofNat (2 + nb) :: D) := ⟨_, rfl⟩
                    have eX : B8 (flatP L) ++ B8 [UInt8.ofNat K, UInt8.ofNat (2 + nb)] ++ B8 D = B8 X := by rw [hX, ← B8_append, ← B8_append, List.append_assoc]; rfl
                    rw [eX] at own3
                    have hDn : D.length = nb := hob5.len
                    have lX : X.length = N + 2 + nb := by rw [hX, List.length_append, List.length_cons, List.length_cons, hDn, ← HN.out]; omega
                    have hrN : rdN X = (61, []) := by
                      unfold rdN
                      rw [if_neg (by omega), hX]
                      have := bad_read HBAD.out HK2.out (by omega) L HOK.out HTW.out
                      rw [hDn] at this
                      exact this
                    have cX := read_any A9 (N + 2 + nb) c9 X V3 lX (Rd.own own3) (fun hA => by
                      rcases own3.2 with ⟨hv, _⟩ | ⟨g', cap, cur, hv, _⟩
                      · injection hv
                      · injection hv with h1; rw [hA] at h1; cases h1) hn9 (by simpa [maxLen] using hm9)
                    have CX := Lib.hid cX
                    have HX := Lib.hid hrN
                    have HF30 := Lib.hid (HF9.out.trans hSm)
                    clear cX hrN own3 own2 hX eX lX hSm hSn hS hF2 hg3 hob5 HR7 HF9 hDn
                    go_wp2_with fail
                    refine CX.out.mono ?_
                    rintro e W6 ⟨hF6, ⟨E6, _, hr6, rfl⟩ | ⟨os6, A6, c6, hr6, rfl, _, _⟩⟩
                    · rw [HX.out] at hr6
                      injection hr6 with h61 _
                      subst h61
                      have HFE := Lib.hid (HF30.out.trans hF6)
                      clear CX HX HF30 hF6
                      go_wp2_with fail
                      go_meet
                      exact HFE.out
                    · rw [HX.out] at hr6
                      injection hr6 with h61 _
                      cases h61
              case rest =>
                as_aux_lemma =>
                  have hF10 := hcut
                  obtain ⟨w10, rfl⟩ : ∃ w10, w10 = wc := ⟨_, rfl⟩
                  have HF10 := Lib.hid (HFW.out.trans (HF4.out.trans (HF8.out.trans hF10)))
                  clear hF10 hcut HALL HOWC HBB HOB HOKC HBAD HROC HB4 HF4 HOB4 HB8 HF8 HZ HQ HN H40 HOK HTW HM1 HFW HLT HLO HGW
                  go_upto_region 35 with (fail)
                  have hb1 : ∀ (t1 t2 : TypeId) (V : World), Rd ((V.alloc (.cells #[.int .u8 4] t1)).alloc (.cells #[.int .u8 131, .slice (some ⟨V.heap.size, 0, none⟩) 1 1] t2)) (some ⟨V.heap.size, 0, none⟩) (B8 [4]) := fun t1 t2 V => (rd_four V t1).fr ((Fr.refl [] _).alloc _) (by simp)
                  have hrd1 := hb1 5 35 w10
                  have hbx := heap_alloc_new (w10.alloc (.cells #[.int .u8 4] 5)) (.cells #[.int .u8 131, .slice (some ⟨w10.heap.size, 0, none⟩) 1 1] 35)
                  rw [World.size_alloc] at hbx
                  have hF11 : Fr [] w10 ((w10.alloc (.cells #[.int .u8 4] 5)).alloc (.cells #[.int .u8 131, .slice (some ⟨w10.heap.size, 0, none⟩) 1 1] 35)) := ((Fr.refl _ _).alloc _).alloc _
                  generalize (w10.alloc (.cells #[.int .u8 4] 5)).alloc (.cells #[.int .u8 131, .slice (some ⟨w10.heap.size, 0, none⟩) 1 1] 35) = w11 at hrd1 hbx hF11 ⊢
                  generalize w10.heap.size = g1 at hrd1 hbx ⊢
                  have HF11 := Lib.hid (HF10.out.trans hF11)
                  have HBX1 := Lib.hid hbx
                  have HRD1 := Lib.hid hrd1
                  have q0 := obx0 (k := 131) hbx
                  have q1 := obx1 (k := 131) hbx
                  clear hF11 hbx hrd1 hb1
                  have hok1 : ∀ W, Fr [] w11 W → OptOk W ⟨131, some ⟨g1, 0, none⟩, 1, 1, [4]⟩ := fun W hW => ⟨HRD1.out.fr hW (by simp), rfl, (by show 1 ≤ _; omega), (by show 131 < 256; omega), (fun h => by cases h), Nat.le_refl 1⟩
                  have HOK1 := Lib.hid hok1
                  clear hok1
                  go_wp2_with fail
                  have hFy : Fr [] w11 (w11.alloc (.cells #[.int .u8 4] 5)) := (Fr.refl _ _).alloc _
                  have hry := rd_four w11 5
                  have hR2 := rdO_lit (w := w11.alloc (.cells #[.int .u8 4] 5)) (l := [⟨131, some ⟨g1, 0, none⟩, 1, 1, [4]⟩, ⟨137, some ⟨w11.heap.size, 0, none⟩, 1, 1, [4]⟩]) 35 (fun o ho => by
                    simp only [List.mem_cons, List.not_mem_nil, or_false] at ho
                    rcases ho with rfl | rfl
                    · exact HOK1.out _ hFy
                    · exact ⟨hry, rfl, (by show 1 ≤ _; omega), (by show 137 < 256; omega), (fun h => by cases h), Nat.le_refl 1⟩)
                  have hFz := hFy.alloc (.cells (CO [⟨131, some ⟨g1, 0, none⟩, 1, 1, [4]⟩, ⟨137, some ⟨w11.heap.size, 0, none⟩, 1, 1, [4]⟩]).toArray 35)
                  rw [show (CO [(⟨131, some ⟨g1, 0, none⟩, 1, 1, [4]⟩ : Opt), ⟨137, some ⟨w11.heap.size, 0, none⟩, 1, 1, [4]⟩]).toArray = #[.int .u8 131, .slice (some ⟨g1, 0, none⟩) 1 1, .int .u8 137, .slice (some ⟨w11.heap.size, 0, none⟩) 1 1] from rfl] at hR2 hFz
                  rw [World.size_alloc] at hR2
                  have cW := write_bad _ 2 2 _ _ rfl hR2 (by decide) (by rw [flt_two]; decide)
                  have CW := Lib.hid cW
                  clear cW
                  refine CW.out.mono ?_
                  rintro e w12 ⟨hF12, hcs⟩
                  have he : e = .returned (.tuple #[.slice none 0 0, .int .i64 63]) := by
                    rcases hcs with ⟨_, he⟩ | ⟨h0, _⟩ | ⟨h0, _⟩
                    · rw [he, flt_two]; rfl
                    · rw [flt_two] at h0; cases h0
                    · rw [flt_two] at h0; cases h0
                  subst he
                  have HF12 := Lib.hid (hFz.trans hF12)
                  clear CW hcs hF12 hFz hR2 hry hFy q0 q1
                  go_upto_region 36 with (fail)
                  obtain ⟨r, hr⟩ : ∃ r, r = u % 3 := ⟨_, rfl⟩
                  have t1 : (u : Int) % 3 = (r : Int) := by omega
                  have t1' : (u : Int).tmod 3 = (r : Int) := by rw [Int.tmod_eq_emod_of_nonneg (by omega)]; omega
                  obtain ⟨zz, hzz⟩ : ∃ zz : Nat, zz = 36 + r := ⟨_, rfl⟩
                  have wz : IntKind.u8.wrap (36 + (r : Int)) = (zz : Int) := by rw [u8_in (by omega) (by omega)]; omega
                  have hz1 : 36 ≤ zz ∧ zz ≤ 38 := by omega
                  clear hr hzz
                  have hS0 : Fr [] w12 w12.drew := (Fr.refl _ _).drew
                  refine wp_region_held_drew (S := fun W => Fr [] w12 W) (by kernel_rfl) hS0 (fun hS => ?_)
                  clear hS0
                  refine wpAnyH_take (i := 0) (v := ?_) rfl (by kernel_rfl) (by kernel_rfl) (by kernel_rfl) (fun _ _ _ h => h) (Or.inl ⟨by rfl, ?_⟩) hS ?_
                  rotate_left 1
                  · intro w' hSw; have q0 := obx0 (k := 131) (hSw.blk (HF12.out.blk HBX1.out (by simp)) (by simp)); have q1 := obx1 (k := 131) (hSw.blk (HF12.out.blk HBX1.out (by simp)) (by simp)); go_simp; with_reducible rfl
                  try simp only [Act.put, List.getElem_toArray, List.getElem_cons_zero, List.setIfInBounds_toArray, List.set_cons_zero, List.set_cons_succ]
                  refine wpAnyH_take (i := 1) (v := ?_) rfl (by kernel_rfl) (by kernel_rfl) (by kernel_rfl) (fun _ _ _ h => h) (Or.inl ⟨by rfl, ?_⟩) hS ?_
                  rotate_left 1
                  · intro w' hSw; go_simp; with_reducible rfl
                  try simp only [Act.put, List.getElem_toArray, List.getElem_cons_succ, List.getElem_cons_zero, List.setIfInBounds_toArray, List.set_cons_zero, List.set_cons_succ]
                  refine wpAnyH_take (i := 2) (v := ?_) rfl (by kernel_rfl) (by kernel_rfl) (by kernel_rfl) (fun _ _ _ h => h) (Or.inl ⟨by rfl, ?_⟩) hS ?_
                  rotate_left 1
                  · intro w' hSw; go_simp; with_reducible rfl
                  try simp only [Act.put, List.getElem_toArray, List.getElem_cons_succ, List.getElem_cons_zero, List.setIfInBounds_toArray, List.set_cons_zero, List.set_cons_succ]
                  refine wpAnyH_take (i := 3) (v := ?_) rfl (by kernel_rfl) (by kernel_rfl) (by kernel_rfl) (fun _ _ _ h => h) (Or.inl ⟨by rfl, ?_⟩) hS ?_
                  rotate_left 1
                  · intro w' hSw; go_simp; with_reducible rfl
                  try simp only [Act.put, List.getElem_toArray, List.getElem_cons_succ, List.getElem_cons_zero, List.setIfInBounds_toArray, List.set_cons_zero, List.set_cons_succ]
                  refine wpAnyH_ready (rs := [4]) (by kernel_rfl) (by simp) ?_
                  refine AllReadyH.cons rfl (fun K' hK => ?_) AllReadyH.nil
                  obtain ⟨wz, hmk, oz, hFz⟩ := makez .u8 zz (by omega) w12.drew
                  have hSn := hS.trans hFz
                  go_simp
                  refine hK.out _ _ hSn (fun hS2 => ?_)
                  clear hK K' hS hS2 hmk
                  have hS := hSn
                  clear hSn
                  try simp only [Act.put, List.getElem_toArray, List.getElem_cons_succ, List.getElem_cons_zero, List.setIfInBounds_toArray, List.set_cons_zero, List.set_cons_succ]
                  refine wpAnyH_take (i := 5) (v := ?_) rfl (by kernel_rfl) (by kernel_rfl) (by kernel_rfl) (fun _ _ _ h => h) (Or.inl ⟨by rfl, ?_⟩) hS ?_
                  rotate_left 1
                  · intro w' hSw; go_simp; with_reducible rfl
                  try simp only [Act.put, List.getElem_toArray, List.getElem_cons_succ, List.getElem_cons_zero, List.setIfInBounds_toArray, List.set_cons_zero, List.set_cons_succ]
                  refine wpAnyH_ready (rs := [6]) (by kernel_rfl) (by simp) ?_
                  refine AllReadyH.cons rfl (fun K' hK => ?_) AllReadyH.nil
                  go_simp
                  have hSn : Fr [] w12 (wz.alloc (.cells #[.int .u8 131, .slice (some ⟨g1, 0, none⟩) 1 1, .int .u8 200, .slice (some ⟨w12.heap.size, 0, none⟩) zz zz] 35)) := hS.alloc _
                  refine hK.out _ _ hSn (fun hS2 => ?_)
                  clear hK K' hS2
                  try simp only [Act.put, List.getElem_toArray, List.getElem_cons_succ, List.getElem_cons_zero, List.setIfInBounds_toArray, List.set_cons_zero, List.set_cons_succ]
                  refine wpAnyH_ready (rs := [7]) (by kernel_rfl) (by simp) ?_
                  refine AllReadyH.cons rfl (fun K' hK => ?_) AllReadyH.nil
                  go_simp
                  have hR3 := rdO_lit (w := wz) (l := [⟨131, some ⟨g1, 0, none⟩, 1, 1, [4]⟩, ⟨200, some ⟨w12.heap.size, 0, none⟩, zz, zz, List.replicate zz 0⟩]) 35 (fun o ho => by
                    simp only [List.mem_cons, List.not_mem_nil, or_false] at ho
                    rcases ho with rfl | rfl
                    · exact HOK1.out _ (HF12.out.trans hS)
                    · exact ⟨Rd.own oz, by simp, (by show zz ≤ _; omega), (by show 200 < 256; omega), (fun h => by cases h), Nat.le_refl zz⟩)
                  rw [show (CO [(⟨131, some ⟨g1, 0, none⟩, 1, 1, [4]⟩ : Opt), ⟨200, some ⟨w12.heap.size, 0, none⟩, zz, zz, List.replicate zz 0⟩]).toArray = #[.int .u8 131, .slice (some ⟨g1, 0, none⟩) 1 1, .int .u8 200, .slice (some ⟨w12.heap.size, 0, none⟩) zz zz] from rfl] at hR3
                  have cW := write_any _ 2 2 _ _ rfl hR3 (by decide)
                  have CW := Lib.hid cW
                  clear cW
                  refine CW.out.mono ?_
                  rintro e w13 ⟨hF13, hcs⟩
                  have he : e = .returned (.tuple #[.slice none 0 0, .int .i64 3]) := by
                    rcases hcs with ⟨h0, _⟩ | ⟨_, _, he⟩ | ⟨_, h0, _⟩
                    · exact absurd (flt_long _ _ hz1.2) h0
                    · exact he
                    · have := flat_long (some ⟨g1, 0, none⟩) (some ⟨w12.heap.size, 0, none⟩) hz1.1; omega
                  subst he
                  have hSm := hSn.trans hF13
                  refine hK.out _ _ hSm (fun hS2 => ?_)
                  clear hK K' hS2 CW hcs hR3 hF13 hSn hS oz hFz
                  have hS := hSm
                  clear hSm
                  try simp only [Act.put, List.getElem_toArray, List.getElem_cons_succ, List.getElem_cons_zero, List.setIfInBounds_toArray, List.set_cons_zero, List.set_cons_succ]
                  refine wpAnyH_take (i := 8) (v := ?_) rfl (by kernel_rfl) (by kernel_rfl) (by kernel_rfl) (fun _ _ _ h => h) (Or.inl ⟨by rfl, ?_⟩) hS ?_
                  rotate_left 1
                  · intro w' hSw; go_simp; with_reducible rfl
                  try simp only [Act.put, List.getElem_toArray, List.getElem_cons_succ, List.getElem_cons_zero, List.setIfInBounds_toArray, List.set_cons_zero, List.set_cons_succ]
                  refine wpAnyH_take (i := 9) (v := ?_) rfl (by kernel_rfl) (by kernel_rfl) (by kernel_rfl) (fun _ _ _ h => h) (Or.inl ⟨by rfl, ?_⟩) hS ?_
                  rotate_left 1
                  · intro w' hSw; go_simp; with_reducible rfl
                  try simp only [Act.put, List.getElem_toArray, List.getElem_cons_succ, List.getElem_cons_zero, List.setIfInBounds_toArray, List.set_cons_zero, List.set_cons_succ]
                  refine wpAnyH_take (i := 10) (v := ?_) rfl (by kernel_rfl) (by kernel_rfl) (by kernel_rfl) (fun _ _ _ h => h) (Or.inl ⟨by rfl, ?_⟩) hS ?_
                  rotate_left 1
                  · intro w' hSw; go_simp; with_reducible rfl
                  try simp only [Act.put, List.getElem_toArray, List.getElem_cons_succ, List.getElem_cons_zero, List.setIfInBounds_toArray, List.set_cons_zero, List.set_cons_succ]
                  refine wpAnyH_take (i := 11) (v := ?_) rfl (by kernel_rfl) (by kernel_rfl) (by kernel_rfl) (fun _ _ _ h => h) (Or.inl ⟨by rfl, ?_⟩) hS ?_
                  rotate_left 1
                  · intro w' hSw; go_simp; with_reducible rfl
                  try simp only [Act.put, List.getElem_toArray, List.getElem_cons_succ, List.getElem_cons_zero, List.setIfInBounds_toArray, List.set_cons_zero, List.set_cons_succ]
                  refine wpAnyH_take (i := 12) (v := ?_) rfl (by kernel_rfl) (by kernel_rfl) (by kernel_rfl) (fun _ _ _ h => h) (Or.inl ⟨by rfl, ?_⟩) hS ?_
                  rotate_left 1
                  · intro w' hSw; go_simp; with_reducible rfl
                  try simp only [Act.put, List.getElem_toArray, List.getElem_cons_succ, List.getElem_cons_zero, List.setIfInBounds_toArray, List.set_cons_zero, List.set_cons_succ]
                  refine wpAnyH_done (by kernel_rfl) ?_ _
                  have HF13 := Lib.hid (HF11.out.trans (HF12.out.trans hS))
                  clear hS HF12 HF11
                  obtain ⟨z3, hz3⟩ : ∃ z3 : Nat, z3 = 41 + u := ⟨_, rfl⟩
                  have e3 : (z3 : Int) = 41 + (u : Int) := by omega
                  obtain ⟨w14, hmk, o14, hF14⟩ := makez .i64 z3 (by omega) w13
                  rw [e3] at hmk
                  have cX := read_any (some ⟨w13.heap.size, 0, none⟩) z3 z3 (List.replicate z3 0) w14 (by simp) (Rd.own o14) (fun h => by cases h) (Nat.le_refl _) (by omega)
                  have hrN : rdN (List.replicate z3 (0 : UInt8)) = (3, []) := by unfold rdN; rw [if_pos (by simp; omega)]
                  have CX := Lib.hid cX
                  have HX := Lib.hid hrN
                  have HF14 := Lib.hid (HF13.out.trans hF14)
                  have HZ3 := Lib.hid hz3
                  clear cX hrN o14 hF14 e3 hz3 HF13
                  go_wp2_with fail
                  refine CX.out.mono ?_
                  rintro e w15 ⟨hF15, ⟨E6, _, hr6, rfl⟩ | ⟨os6, A6, c6, hr6, rfl, _, _⟩⟩
                  · rw [HX.out] at hr6
                    injection hr6 with h61 _
                    subst h61
                    have HFE := Lib.hid (HF14.out.trans hF15)
                    clear CX HX HF14 hF15
                    go_wp2_with fail
                    go_ret
                    exact ⟨rfl, HFE.out⟩
                  · rw [HX.out] at hr6
                    injection hr6 with h61 _
                    cases h61
end Go.Proofs.Ytekhjpiopbkoaaa
