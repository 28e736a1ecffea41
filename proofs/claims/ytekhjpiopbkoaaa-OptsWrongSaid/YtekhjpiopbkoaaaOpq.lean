/- The iterator of parts, whatever its body does with the options. -/
import Derived.Test.YtekhjpiopbkoaaaOpt
import Derived.Test.YtekhjpiopbkoaaaStin
import Derived.RangeFuncIn
namespace Go.Proofs.Ytekhjpiopbkoaaa
open Go.RowKit Go.Shelf
set_option linter.unusedVariables false
attribute [local go_sem] Oper.semAt_some

theorem add_pl (b o i : Nat) : (⟨b, o, none⟩ : Addr).add i = ⟨b, o + i, none⟩ := by
  by_cases h : i = 0
  · subst h; simp [Addr.add]
  · simp [Addr.add, h]
theorem fir_size {xs : List UInt8} (h0 : 1 ≤ xs.length) (h : (firK xs).2.2 = 0) : 1 ≤ (firK xs).2.1 ∧ (firK xs).2.1 ≤ xs.length := by
  unfold firK at h ⊢
  split
  · exact ⟨Nat.le_refl _, h0⟩
  · rename_i h1
    rw [if_neg h1] at h
    split
    · rename_i h2; rw [if_pos h2] at h; cases h
    · rename_i h2
      rw [if_neg h2] at h
      split
      · rename_i h3; rw [if_pos h3] at h; cases h
      · rename_i h3
        rw [if_neg h3] at h
        split
        · rename_i h4; rw [if_pos h4] at h; cases h
        · rename_i h4
          rw [if_neg h4] at h
          split
          · exact ⟨by simp only; omega, by simp only; omega⟩
          · rename_i h5; rw [if_neg h5] at h; cases h
/-- What a round is handed. -/
def FirV (xs : List UInt8) (A : Option Addr) (c : Nat) : Array Value := #[OV (firK xs).1 A (firD xs).length c, .int .i64 ((firK xs).2.2 : Nat)]
set_option maxRecDepth 100000 in
set_option maxHeartbeats 4000000 in
theorem parts1_in (N l : Nat) (A0 : Option Addr) (bb o n c Bb : Nat) (hN : 1 ≤ N) (hA0 : 0 < n → A0 = some ⟨bb, o, none⟩) (xs : List UInt8) (hl : xs.length = n) (hnc : n ≤ c) (hcm : c ≤ 9223372036854775807) (hn47 : n ≤ 140737488351232) (K : Nat → World → Prop) (F : World → Prop)
    (hK : ∀ i W W', K i W → Fr [] W W' → K i W')
    (hKr : ∀ i W, K i W → Rd W (some ⟨bb, o, none⟩) (B8 xs))
    (hY : ∀ i W0 W A d, K i W0 → Fr [] W0 W → i < n → bt (xs.drop i) 0 ≠ 0 → (firK (xs.drop i)).2.2 = 0 → W.ownsRow W0.heap.size 5 1 (.slice A (firD (xs.drop i)).length d) (firD (xs.drop i)).length (B8 (firD (xs.drop i))) → YieldAt Fence.wide (N - 1) Try.prog l (FirV (xs.drop i) A d) W fun e W' => (e = .returned (.bool true) ∧ K (i + (firK (xs.drop i)).2.1) W') ∨ (e = .returned (.bool false) ∧ F W'))
    (hE : ∀ i W A d, K i W → i < n → bt (xs.drop i) 0 ≠ 0 → (firK (xs.drop i)).2.2 ≠ 0 → YieldAt Fence.wide (N - 1) Try.prog l (FirV (xs.drop i) A d) W fun e W' => (∃ b, e = .returned (.bool b)) ∧ F W')
    (hT : ∀ i W, K i W → (i = n ∨ bt (xs.drop i) 0 = 0) → (xs.drop i).any (fun x => x != 0) = true → YieldAt Fence.wide (N - 1) Try.prog l #[.agg #[.int .u8 0, .slice none 0 0], .int .i64 62] W fun e W' => (∃ b, e = .returned (.bool b)) ∧ F W')
    (hD : ∀ i W, K i W → (i = n ∨ bt (xs.drop i) 0 = 0) → (xs.drop i).any (fun x => x != 0) = false → F W)
    (W : World) (hB : W.cell? ⟨Bb, 0, none⟩ = some (.slice A0 n c)) (h0 : K 0 W) :
    CallsIn Fence.wide N Try.prog 39 #[.func (.yield l) #[] #[], .pointer (some ⟨Bb, 0, none⟩)] W fun e W' => (∃ v, e = .returned v) ∧ F W' := by
  have HA0 := Lib.hid hA0
  clear hA0
  refine callsIn_of_wp Try.func39 rfl trivial ?_ rfl
  simp only [Try.ntmps39, List.size_toArray, List.length_cons, List.length_nil, Nat.reduceAdd, Nat.reduceSub, Array.replicate_succ, Array.replicate_zero, List.push_toArray, List.append_toArray, List.nil_append, List.cons_append]
  gi_wp2
  gi_loopw [3] (fun rest wr => ∃ (i : Nat) (A : Option Addr) (d : Nat), i ≤ n ∧ rest = .slice A (n - i) d ∧ (i < n → A = some ⟨bb, o + i, none⟩) ∧ n - i ≤ d ∧ d ≤ c ∧ K i wr)
    (fun rest _ => match rest with | .slice _ m _ => m | _ => 0)
  case atStart => exact ⟨0, A0, c, Nat.zero_le _, rfl, fun h => HA0.out h, hnc, Nat.le_refl _, h0⟩
  case round =>
    obtain ⟨i, A, d, hin, rfl, hA, hd, hdc, hKi⟩ := hrel
    by_cases hlt : i < n
    · obtain rfl := hA hlt
      have hr0 := hKr _ _ hKi
      have hr1 : Rd wr (some ⟨bb, o + i, none⟩) (B8 (xs.drop i)) := by
        have h := hr0.drop i
        rw [B8_drop, Option.map_some, show (⟨bb, o, none⟩ : Addr).add i = ⟨bb, o + i, none⟩ from add_pl _ _ _] at h
        exact h
      have hlen : (xs.drop i).length = n - i := by rw [List.length_drop, hl]
      have hYi := hY i
      have hEi := hE i
      have hTi := hT i
      have hDi := hD i
      have q0 := bt_cell (n := n) hr1 (k := 0) (by omega)
      rw [Nat.add_zero] at q0
      have i0 : (0 : Int) < ((n - i : Nat) : Int) := by omega
      have hsz := fir_size (xs := xs.drop i) (by omega)
      have cF := first_any bb (o + i) (n - i) d (xs.drop i) wr hlen hr1 (by omega) hd (by omega)
      generalize hx : xs.drop i = ys at *
      by_cases hz : bt ys 0 = 0
      · have z0 : (((bt ys 0 : Nat) : Int) != 0) = false := by rw [bne_eq_false_iff_eq]; omega
        have cC := containsNz (some ⟨bb, o + i, none⟩) (n - i) d ys wr hlen hr1 (by omega)
        have HKi := Lib.hid hKi
        have CC := Lib.hid cC
        have HT := Lib.hid hTi
        have HD := Lib.hid hDi
        have HHK := Lib.hid (@hK i)
        clear cC cF hYi hEi hTi hDi hK hE hKr hY hr0 hr1 hT hD hKi
        gi_wp2_with fail
        refine ⟨trivial, ?_⟩
        refine (callsIn_wide.2 CC.out).mono ?_
        rintro e w3 ⟨rfl, hF3⟩
        have hK3 := HHK.out _ _ HKi.out hF3
        cases hany : ys.any (fun x => x != 0) with
        | false =>
          have hF5 := HD.out _ hK3 (.inr hz) hany
          clear hK3
          gi_wp2_with fail
          go_end0
          exact ⟨⟨_, rfl⟩, hF5⟩
        | true =>
          obtain ⟨fn, tmps, assign, body, hy, hR⟩ := HT.out _ hK3 (.inr hz) hany
          have HR := Lib.hid hR
          clear hR hK3
          gi_wp2_with fail
          refine HR.out.mono ?_
          rintro e W5 ⟨⟨b, rfl⟩, hF5⟩
          clear hy
          gi_wp2_with fail
          go_end0
          exact ⟨⟨_, rfl⟩, hF5⟩
      · have z0 : (((bt ys 0 : Nat) : Int) != 0) = true := by rw [bne_iff_ne]; omega
        obtain ⟨k, sz, er, hk⟩ : ∃ k sz er, firK ys = (k, sz, er) := ⟨_, _, _, rfl⟩
        obtain ⟨D, hDD⟩ : ∃ D, D = firD ys := ⟨_, rfl⟩
        have HKi := Lib.hid hKi
        have CF := Lib.hid cF
        have HHY := Lib.hid hYi
        have HHE := Lib.hid hEi
        have HHK := Lib.hid (@hK i)
        have HZ := Lib.hid hz
        clear cF hYi hEi hTi hDi hK hE hKr hY hr0 hr1 hT hD
        gi_wp2_with fail
        refine ⟨trivial, ?_⟩
        refine (callsIn_wide.2 CF.out).mono ?_
        rintro e w3 ⟨A2, c2, rfl, ho, hF3⟩
        unfold OV
        have hb : w3.heap.size = w3.heap.size := rfl
        clear q0
        gi_wp2_with fail
        have hFW : Fr [] wr (w3.alloc (.cells #[.int .u8 k, .slice A2 (firD ys).length c2] 35)) := hF3.alloc _
        have hKW := HHK.out _ _ HKi.out hFW
        by_cases her : er = 0
        · obtain ⟨hs1, hs2⟩ := hsz (by rw [hk]; exact her)
          obtain ⟨fn, tmps, assign, body, hy, hR⟩ := HHY.out wr (w3.alloc (.cells #[.int .u8 k, .slice A2 (firD ys).length c2] 35)) A2 c2 HKi.out hFW hlt hz (by rw [hk]; exact her) (ho.alloc _)
          unfold FirV OV at hy
          rw [hk] at hy hs1 hs2 hR
          simp only at hy hs1 hs2 hR
          have e0 : (((er : Nat) : Int) != 0) = false := by rw [bne_eq_false_iff_eq]; omega
          rw [hy]
          have HR := Lib.hid hR
          clear hR hy
          gi_wp2_with fail
          refine HR.out.mono ?_
          rintro e W5 (⟨rfl, hK5⟩ | ⟨rfl, hF5⟩)
          · gi_wp2_with fail
            refine ⟨⟨i + sz, _, d - sz, by omega, by rw [show n - i - sz = n - (i + sz) by omega], fun h => ?_, by omega, by omega, hK5⟩, by simp only; omega⟩
            rw [if_neg (by omega), Nat.add_assoc]
          · clear hKW
            gi_wp2_with fail
            refine bodyPost_ret (results_none rfl _ _ _) rfl ?_
            exact ⟨⟨_, rfl⟩, hF5⟩
        · obtain ⟨fn, tmps, assign, body, hy, hR⟩ := HHE.out (w3.alloc (.cells #[.int .u8 k, .slice A2 (firD ys).length c2] 35)) A2 c2 hKW hlt hz (by rw [hk]; exact her)
          unfold FirV OV at hy
          rw [hk] at hy
          simp only at hy
          have e0 : (((er : Nat) : Int) != 0) = true := by rw [bne_iff_ne]; omega
          rw [hy]
          have HR := Lib.hid hR
          clear hR hy
          gi_wp2_with fail
          refine HR.out.mono ?_
          rintro e W5 ⟨⟨b, rfl⟩, hF5⟩
          cases b with
          | true =>
            clear hKW
            gi_wp2_with fail
            refine bodyPost_ret (results_none rfl _ _ _) rfl ?_
            exact ⟨⟨_, rfl⟩, hF5⟩
          | false =>
            clear hKW
            gi_wp2_with fail
            refine bodyPost_ret (results_none rfl _ _ _) rfl ?_
            exact ⟨⟨_, rfl⟩, hF5⟩
    · obtain rfl : i = n := by omega
      have hDi := hD i
      rw [List.drop_of_length_le (by omega)] at hDi
      have cC := containsNz A 0 d [] wr (by simp) (fun j u hu => by simp [B8] at hu) (by omega)
      rw [List.any_nil] at cC
      have i0 : ¬ (0 : Int) < ((i - i : Nat) : Int) := by omega
      have HKi := Lib.hid hKi
      have CC := Lib.hid cC
      have HD := Lib.hid hDi
      have HHK := Lib.hid (@hK i)
      clear cC hDi hK hE hKr hY hT hD hKi hA
      gi_wp2_with fail
      refine ⟨trivial, ?_⟩
      refine (callsIn_wide.2 CC.out).mono ?_
      rintro e w3 ⟨rfl, hF3⟩
      have hK3 := HHK.out _ _ HKi.out hF3
      have hF5 := HD.out _ hK3 (.inl (by trivial)) (by trivial)
      clear hK3
      gi_wp2_with fail
      go_end0
      exact ⟨⟨_, rfl⟩, hF5⟩
theorem parts_any (A : Option Addr) (n c : Nat) (W : World) : Calls Try.prog 25 #[.slice A n c] W fun e w' => e = .returned (.func (.func 39) #[] #[.pointer (some ⟨W.heap.size, 0, none⟩)]) ∧ w' = W.alloc (.cells #[.slice A n c] 27) := by
  go_enter Try.func25, Try.ntmps25
  go_wp2
  go_ret
  exact ⟨rfl, rfl⟩
end Go.Proofs.Ytekhjpiopbkoaaa
