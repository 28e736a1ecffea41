/- The walk of CsumTells. -/
import Derived.Test.YtdkpmbefnfdbkaaApartB
import Derived.Test.YtdkpmbefnfdbkaaRfix
import Derived.Test.YtdkpmbefnfdbkaaAwk
namespace Go.Proofs.Ytdkpmbefnfdbkaa
open Go.RowKit

/-- What Fix answers: these bytes, in a row of their own, and the number of the error. -/
def FixP (w : World) (zs : List UInt8) (m f : Nat) (e : Ending) (w' : World) : Prop :=
  ∃ A c, e = .returned (.tuple #[.slice A m c, .int .i64 f]) ∧ w'.ownsRow w.heap.size 5 1 (.slice A m c) m (B8 zs) ∧ Fr [] w w'

theorem fix_pair (n : Nat) (xs : List UInt8) (at_ : Int) (hl : xs.length = n) (hn : n ≤ 140737488351232) : ∃ (zs : List UInt8) (m f : Nat), zs.length = m ∧ m ≤ n ∧ f < 10 ∧
    (∀ w A c, Rd w A (B8 xs) → Calls Try.prog 12 #[.slice A n c, .int .i64 at_] w (FixP w zs m f)) ∧
    (∀ w A c, Rd w A (B8 xs) → (A = none → c = 0) → Calls Try.prog 27 #[.slice A n c, .int .i64 at_] w (FixP w zs m f)) := by
  by_cases hb : at_ < 0 ∨ at_ % 2 ≠ 0 ∨ (n : Int) - 2 < at_
  · have hno : ∀ w e w', FixNo w e w' → FixP w [] 0 2 e w' := by
      rintro w e w' ⟨rfl, rfl⟩
      exact ⟨none, 0, rfl, ⟨rfl, .inl ⟨rfl, rfl⟩⟩, Fr.refl _ _⟩
    exact ⟨[], 0, 2, rfl, Nat.zero_le _, by decide, fun w A c _ => (fix_no A n c at_ w hn hb).mono (hno w), fun w A c _ _ => (rfix_no A n c at_ w hn hb).mono (hno w)⟩
  · obtain ⟨k, rfl⟩ := Int.eq_ofNat_of_zero_le (show 0 ≤ at_ by omega)
    have hk : k % 2 = 0 := by omega
    have hkn : k + 2 ≤ n := by omega
    have hyes : ∀ w e w', FixYes w xs k n e w' → FixP w (fixed xs k) n 0 e w' := by
      rintro w e w' ⟨g, c, rfl, h1, h2⟩
      exact ⟨_, c, rfl, h1, h2⟩
    exact ⟨fixed xs k, n, 0, by rw [fixed, put2_length (by omega), hl], Nat.le_refl _, by decide, fun w A c h => (fix_yes A n c xs k w hl h hn hk hkn).mono (hyes w), fun w A c h hA => (rfix_yes A n c xs k w hl h hA hn hk hkn).mono (hyes w)⟩

theorem fold_over (p s : Nat) : fold (p + fold s) = fold (p + s) := by
  unfold fold
  split <;> split <;> split <;> omega

/-- What is lent and what is handed back, in two cells. -/
theorem two_in {w : World} {g c n m c2 : Nat} {A2 : Option Addr} {xs zs : List UInt8} {b0 : Nat} (h1 : w.ownsRow b0 5 1 (.slice (some ⟨g, 0, none⟩) n c) n (B8 xs)) (h2 : w.ownsRow (g + 1) 5 1 (.slice A2 m c2) m (B8 zs)) (hn : n ≤ 140737488351232) (hm : m ≤ n) :
    FlIn (w.alloc (.cells #[.slice (some ⟨g, 0, none⟩) n c, .slice A2 m c2] 22)) 2 w.heap.size 0 (fun j => if j = 0 then .slice (some ⟨g, 0, none⟩) n c else .slice A2 m c2) (fun j => if j = 0 then n else m) := by
  have hr := rd_lit w [.slice (some ⟨g, 0, none⟩) n c, .slice A2 m c2] 22
  refine ⟨by decide, ?_, ?_, ?_, ?_, ?_⟩
  · intro j _
    split <;> omega
  · intro j _
    split
    · exact ⟨xs, Ow.of (h1.alloc _)⟩
    · exact ⟨zs, Ow.of (h2.alloc _)⟩
  · intro i j hi hj hne b hb hc
    have key : ∀ b, (Value.slice A2 m c2).ownBlock = some b → g < b := fun b e => by have := (h2.lt b e).1; omega
    have e0 : ∀ b, (Value.slice (some ⟨g, 0, none⟩) n c).ownBlock = some b → b = g := fun b e => by simp [Value.ownBlock] at e; omega
    rcases (by omega : (i = 0 ∧ j = 1) ∨ (i = 1 ∧ j = 0)) with ⟨rfl, rfl⟩ | ⟨rfl, rfl⟩
    · have := key b (by simpa using hc); have := e0 b (by simpa using hb); omega
    · have := key b (by simpa using hb); have := e0 b (by simpa using hc); omega
  · intro j hj
    rcases (by omega : j = 0 ∨ j = 1) with rfl | rfl
    · exact rdc hr 0 _ rfl
    · exact rdc hr 1 _ rfl
  · intro j hj e
    split at e
    · have := (h1.lt _ e).2; omega
    · have := (h2.lt _ e).2; omega

set_option maxRecDepth 100000 in
set_option maxHeartbeats 4000000 in
theorem tells_any (A : Option Addr) (n c : Nat) (xs : List UInt8) (at_ : Int) (p : Nat) (w : World) (hl : xs.length = n) (hrd : Rd w A (B8 xs)) (hnil : A = none → c = 0) (hn : n ≤ 140737488351232) (hp : p < 65536) :
    Calls Try.prog 9 #[.slice A n c, .int .i64 at_, .int .u16 p] w fun e w' => e = .returned (.bool true) ∧ Fr [] w w' := by
  obtain ⟨zs, m, f, hzl, hmn, hf, hX1, hX2⟩ := fix_pair n xs at_ hl hn
  have HX1 := Lib.hid hX1
  have HX2 := Lib.hid hX2
  have HL := Lib.hid hl
  have HZL := Lib.hid hzl
  have HMN := Lib.hid hmn
  have HN := Lib.hid hnil
  have hL := lent_any A n c xs w hl hrd hnil hn
  clear hX1 hX2 hl hzl hmn hnil
  go_enter Try.func9, Try.ntmps9
  go_wp2_with fail
  refine hL.mono ?_
  clear hL
  rintro e w1 ⟨g, cl, rfl, hcl, ho, hF⟩
  have hr0 := hrd.fr hF (by simp)
  have ho1 := own_cut (k := n) ho (by omega)
  rw [B8_take, List.take_append_of_le_length (by rw [HL.out]; exact Nat.le_refl _), List.take_of_length_le (by rw [HL.out]; exact Nat.le_refl _)] at ho1
  have hg1 : w.heap.size ≤ g ∧ g < w1.heap.size := ho1.lt g rfl
  clear hrd
  go_wp2_with fail
  refine (HX1.out w1 _ cl (Rd.own ho1)).mono ?_
  rintro e w2 ⟨A2, c2, rfl, ho2, hF2⟩
  have ho2 := own_ext ho2 (base' := g + 1) hg1.2
  replace hF := hF.trans hF2
  replace hr0 := hr0.fr hF2 (by simp)
  replace ho := hF2.own ho (by simp)
  replace ho1 := hF2.own ho1 (by simp)
  clear hF2
  go_wp2_with fail
  refine (HX2.out w2 _ c hr0 HN.out).mono ?_
  rintro e w3 ⟨A3, c3, rfl, ho3, hF3⟩
  replace hF := hF.trans hF3
  replace hr0 := hr0.fr hF3 (by simp)
  replace ho := hF3.own ho (by simp)
  replace ho1 := hF3.own ho1 (by simp)
  replace ho2 := hF3.own ho2 (by simp)
  have hSm := (same_any A2 A3 m m c2 c3 zs zs w3 HZL.out HZL.out (Rd.own ho2) (Rd.own ho3) (by have := HMN.out; omega)).mono (R' := fun e w' => e = .returned (.bool true) ∧ ∃ q, w' = w3.drewN q) (by rintro e w' ⟨rfl, h⟩; exact ⟨by simp, h⟩)
  clear hF3 ho3
  have hr1 := Rd.own ho1
  have hfs := fold_le (wsum xs)
  have hfo := fold_le (p + wsum xs)
  have hS1 := fun W hW => sum_any (some ⟨g, 0, none⟩) n cl xs W HL.out hW hn
  have hS2 := fun W hW => rsum_any A n c xs W HL.out hW hn
  have hO1 := fun W hW => of_any (some ⟨g, 0, none⟩) n cl xs W HL.out hW hn
  have hO2 := fun W hW => rof_any A n c xs W HL.out hW hn
  have hR1 := fun W hW => right_any (some ⟨g, 0, none⟩) n cl xs W HL.out hW hn
  have hV1 := fun W hW => over_any p (some ⟨g, 0, none⟩) n cl xs W hp HL.out hW hn
  have hV2 := fun W hW => rover_any p A n c xs W hp HL.out hW hn
  simp only [fold_over] at hV2
  generalize fold (wsum xs) = s at hfs hS1 hS2 hO1 hO2 hR1 hV2
  generalize fold (p + wsum xs) = v at hfo hV1 hV2
  have hdq : decide (s = 65535) = ((s : Int) == 65535) := by rw [Bool.eq_iff_iff]; simp; omega
  simp only [hdq] at hR1
  clear hdq
  obtain ⟨t, ht⟩ : ∃ t, t = 65535 - s := ⟨_, rfl⟩
  obtain ⟨u, hu⟩ : ∃ u, u = 65535 - v := ⟨_, rfl⟩
  rw [← ht] at hO1 hO2
  rw [← hu] at hV1 hV2
  have hws : IntKind.i64.wrap (s : Int) = s := i64_nat (by omega)
  have hwt : IntKind.i64.wrap (t : Int) = t := i64_nat (by omega)
  have hwu : IntKind.i64.wrap (u : Int) = u := i64_nat (by omega)
  have hwf : IntKind.i64.wrap (f : Int) = f := i64_nat (by omega)
  have hwp : IntKind.i64.wrap (p : Int) = p := i64_nat (by omega)
  have HS1 := Lib.hid hS1
  have HS2 := Lib.hid hS2
  have HO1 := Lib.hid hO1
  have HO2 := Lib.hid hO2
  have HR1 := Lib.hid hR1
  have HV1 := Lib.hid hV1
  have HV2 := Lib.hid hV2
  clear hS1 hS2 hO1 hO2 hR1 hV1 hV2 ht hu hfo hfs
  go_wp2_with fail
  refine hSm.mono ?_
  clear hSm
  rintro e w' ⟨rfl, q, rfl⟩
  replace hF := hF.drewN q
  have hFq : Fr [] w3 (w3.drewN q) := (Fr.refl _ _).drewN q
  replace hr0 := hr0.fr hFq (by simp)
  replace hr1 := hr1.fr hFq (by simp)
  replace ho := hFq.own ho (by simp)
  replace ho1 := hFq.own ho1 (by simp)
  replace ho2 := hFq.own ho2 (by simp)
  clear hFq
  generalize w3.drewN q = w4 at hF hr0 hr1 ho ho1 ho2 ⊢
  go_wp2_with fail
  refine (HS1.out _ hr1).mono ?_
  rintro e w5 ⟨rfl, hG⟩
  replace hF := hF.trans hG
  replace hr0 := hr0.fr hG (by simp)
  replace hr1 := hr1.fr hG (by simp)
  replace ho := hG.own ho (by simp)
  replace ho1 := hG.own ho1 (by simp)
  replace ho2 := hG.own ho2 (by simp)
  clear hG
  go_wp2_with fail
  refine (HS2.out _ hr0).mono ?_
  rintro e w' ⟨rfl, rfl⟩
  go_wp2_with fail
  refine (HO1.out _ hr1).mono ?_
  rintro e w6 ⟨rfl, hG⟩
  replace hF := hF.trans hG
  replace hr0 := hr0.fr hG (by simp)
  replace hr1 := hr1.fr hG (by simp)
  replace ho := hG.own ho (by simp)
  replace ho1 := hG.own ho1 (by simp)
  replace ho2 := hG.own ho2 (by simp)
  clear hG
  go_wp2_with fail
  refine (HO2.out _ hr0).mono ?_
  rintro e w' ⟨rfl, rfl⟩
  go_wp2_with fail
  refine (HR1.out _ hr1).mono ?_
  rintro e w7 ⟨rfl, hG⟩
  replace hF := hF.trans hG
  replace hr0 := hr0.fr hG (by simp)
  replace hr1 := hr1.fr hG (by simp)
  replace ho := hG.own ho (by simp)
  replace ho1 := hG.own ho1 (by simp)
  replace ho2 := hG.own ho2 (by simp)
  clear hG
  go_wp2_with fail
  refine (HS2.out _ hr0).mono ?_
  rintro e w' ⟨rfl, rfl⟩
  go_wp2_with fail
  refine (HV1.out _ hr1).mono ?_
  rintro e w8 ⟨rfl, hG⟩
  replace hF := hF.trans hG
  replace hr0 := hr0.fr hG (by simp)
  replace hr1 := hr1.fr hG (by simp)
  replace ho := hG.own ho (by simp)
  replace ho1 := hG.own ho1 (by simp)
  replace ho2 := hG.own ho2 (by simp)
  clear hG
  go_wp2_with fail
  refine (HV2.out _ hr0).mono ?_
  rintro e w' ⟨rfl, rfl⟩
  clear hws hwt hwu hwf hwp
  go_wp2_with fail
  refine (kept_any g A n cl c xs w8 HL.out (Rd.own ho) hr0 hn hcl).mono ?_
  rintro e w' ⟨rfl, q, rfl⟩
  have hFq : Fr [] w8 (w8.drewN q) := (Fr.refl _ _).drewN q
  replace hF := hF.trans hFq
  replace ho1 := hFq.own ho1 (by simp)
  replace ho2 := hFq.own ho2 (by simp)
  clear hFq hr0 hr1 ho
  generalize w8.drewN q = w9 at hF ho1 ho2 ⊢
  have hT := two_in ho1 ho2 hn HMN.out
  have hP := apart_any (ca := 2) hT (by decide)
  have hSv : ∀ b ∈ Sv 2 (fun j => if j = 0 then Value.slice (some ⟨g, 0, none⟩) n cl else .slice A2 m c2), w.heap.size ≤ b := by
    intro b hb
    rw [mem_Sv] at hb
    obtain ⟨j, hj, e⟩ := hb
    split at e
    · have := (ho1.lt b e).1; omega
    · have := (ho2.lt b e).1; omega
  have HSV := Lib.hid hSv
  replace hF := hF.alloc (.cells #[.slice (some ⟨g, 0, none⟩) n cl, .slice A2 m c2] 22)
  clear hSv hT ho1 ho2
  go_wp2_with fail
  refine hP.mono ?_
  clear hP
  rintro e w' ⟨rfl, hG⟩
  replace hF := hF.trans2 hG (fun t ht => .inr (HSV.out t ht))
  go_wp2_with fail
  go_ret
  exact ⟨rfl, hF⟩

/-- CsumTells returns true. -/
theorem ctells_any (A : Option Addr) (n c : Nat) (xs : List UInt8) (at_ : Int) (p : Nat) (w : World) (hl : xs.length = n) (hrd : Rd w A (B8 xs)) (hnil : A = none → c = 0) (hn : n ≤ 140737488351232) (hp : p < 65536) :
    Calls Try.prog 3 #[.slice A n c, .int .i64 at_, .int .u16 p] w fun e w' => e = .returned (.bool true) ∧ Fr [] w w' := by
  have hN := tells_any A n c xs at_ p w hl hrd hnil hn hp
  clear hl hrd hnil hn hp
  go_enter Try.func3, Try.ntmps3
  go_wp2_with fail
  refine hN.mono ?_
  clear hN
  rintro e w1 ⟨rfl, hF⟩
  go_wp2_with fail
  refine (awake_any w1).mono ?_
  rintro e w2 ⟨rfl, hF2⟩
  go_wp2_with fail
  go_ret
  exact ⟨rfl, hF.trans hF2⟩
end Go.Proofs.Ytdkpmbefnfdbkaa
