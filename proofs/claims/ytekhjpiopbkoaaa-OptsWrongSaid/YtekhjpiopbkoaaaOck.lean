/- slices.Chunk by fours: the function, and its iterator, whatever its body does. -/
import Derived.Test.YtekhjpiopbkoaaaOpq
import Derived.RangeFuncIn
import Derived.OwnWalkIn
import Derived.BigRegionIn
namespace Go.Proofs.Ytekhjpiopbkoaaa
open Go.RowKit Go.Shelf
set_option linter.unusedVariables false
set_option maxRecDepth 100000
attribute [local go_sem] Oper.semAt_some

theorem chunk_any (A : Option Addr) (n c : Nat) (W : World) : Calls Try.prog 50 #[.slice A n c, .int .i64 4] W fun e w' => e = .returned (.func (.func 52) #[] #[.pointer (some ⟨W.heap.size, 0, none⟩), .pointer (some ⟨W.heap.size + 1, 0, none⟩)]) ∧ w' = (W.alloc (.cells #[.slice A n c] 27)).alloc (.cells #[.int .i64 4] 3) := by
  go_enter Try.func50, Try.ntmps50
  go_wp2
  go_ret
  exact ⟨rfl, rfl⟩
set_option maxHeartbeats 4000000 in
theorem chunk1_in (N l : Nat) (A0 : Option Addr) (bb o n c q Bs Bn : Nat) (hN : 1 ≤ N) (hA0 : 0 < n → A0 = some ⟨bb, o, none⟩) (hn : n = q * 4) (hnc : n ≤ c) (hcm : c ≤ 9223372036854775807) (hn47 : n ≤ 140737488351232) (K : Nat → World → Prop)
    (hK : ∀ i W W', K i W → Fr [] W W' → K i W')
    (hKc : ∀ i W, K i W → W.cell? ⟨Bs, 0, none⟩ = some (.slice A0 n c) ∧ W.cell? ⟨Bn, 0, none⟩ = some (.int .i64 4))
    (hY : ∀ i W, K i W → i < q → YieldAt Fence.wide (N - 1) Try.prog l #[.slice (some ⟨bb, o + i * 4, none⟩) 4 4] W fun e W' => e = .returned (.bool true) ∧ K (i + 1) W')
    (W : World) (h0 : K 0 W) :
    CallsIn Fence.wide N Try.prog 52 #[.func (.yield l) #[] #[], .pointer (some ⟨Bs, 0, none⟩), .pointer (some ⟨Bn, 0, none⟩)] W fun e W' => (∃ v, e = .returned v) ∧ K q W' := by
  have HA0 := Lib.hid hA0
  have HN := Lib.hid hn
  clear hA0 hn
  refine callsIn_of_wp Try.func52 rfl trivial ?_ rfl
  simp only [Try.ntmps52, List.size_toArray, List.length_cons, List.length_nil, Nat.reduceAdd, Nat.reduceSub, Array.replicate_succ, Array.replicate_zero, List.push_toArray, List.append_toArray, List.nil_append, List.cons_append]
  gi_wp2
  gi_loopw [4] (fun s4 wr => ∃ i : Nat, i ≤ q ∧ s4 = .int .i64 ((i * 4 : Nat) : Int) ∧ K i wr) (fun s4 _ => q * 4 - (intOf s4).toNat)
  case atStart => exact ⟨0, Nat.zero_le _, rfl, h0⟩
  case round =>
    obtain ⟨i, hi, rfl, hKi⟩ := hrel
    obtain ⟨k1, k2⟩ := hKc _ _ hKi
    by_cases hlt : i < q
    · have hn' := HN.out
      have ha := HA0.out (by omega)
      subst ha
      have hlti : ((i * 4 : Nat) : Int) < (n : Int) := by omega
      obtain ⟨i4, hi4⟩ : ∃ i4, i4 = i * 4 := ⟨_, rfl⟩
      rw [← hi4] at hlti ⊢
      have b1 : (0 : Int) ≤ (i4 : Int) ∧ (i4 : Int) ≤ (n : Int) := by omega
      have HI4 := Lib.hid hi4
      have HY := Lib.hid (hY i)
      have HKI := Lib.hid hKi
      have hc4 : ¬ c = i4 := by omega
      have hmin : (4 : Int) ≤ ((n - i4 : Nat) : Int) := by omega
      have HK := Lib.hid hK
      have HKC := Lib.hid hKc
      clear hi4 hn' hY hKi hK hKc
      have hnm : ¬ (((n - i4 : Nat) : Int) < 4) := by omega
      have hnm2 : ¬ (n - i4 < 4) := by omega
      gi_wp2_with fail
      gi_region
      have hKd : K i wr.drew := HK.out _ _ _ HKI.out (Fr.refl _ _).drew
      obtain ⟨k3, k4⟩ := HKC.out _ _ hKd
      obtain ⟨fn, tmps, assign, body, hy, hR⟩ := HY.out _ hKd hlt
      rw [← HI4.out] at hy
      have HR := Lib.hid hR
      clear hR hKd k1 k2
      have hw4 : IntKind.i64.wrap ((i4 : Int) + 4) = (i4 : Int) + 4 := IntWalk.i64_in _ (by omega)
      have hb4 : (0 : Int) ≤ (i4 : Int) + 4 ∧ (i4 : Int) + 4 ≤ (c : Int) := by omega
      have hb5 : ((i4 : Int) + 4).toNat = i4 + 4 := by omega
      have hb6 : ¬ i4 + 4 = i4 := by omega
      have hb7 : i4 + 4 - i4 = 4 := by omega
      gi_wp2_with fail
      refine HR.out.mono ?_
      rintro e W5 ⟨rfl, hK5⟩
      obtain ⟨k5, k6⟩ := HKC.out _ _ hK5
      have HK5 := Lib.hid hK5
      have hq4 := HI4.out
      have he4 : ((i4 : Int) + 4) = (((i + 1) * 4 : Nat) : Int) := by omega
      have HE4 := Lib.hid he4
      clear hK5 hy k3 k4 HR hq4 he4
      gi_wp2_with fail
      have hq4 := HI4.out
      refine ⟨⟨i + 1, by omega, by rw [HE4.out], HK5.out⟩, by simp only [intOf]; omega⟩
    · obtain rfl : i = q := by omega
      have hn' := HN.out
      have hlti : ¬ ((i * 4 : Nat) : Int) < (n : Int) := by omega
      have HKI := Lib.hid hKi
      clear hKi hK hKc hY hn'
      gi_wp2_with fail
      go_end0
      exact ⟨⟨_, rfl⟩, HKI.out⟩
end Go.Proofs.Ytekhjpiopbkoaaa
