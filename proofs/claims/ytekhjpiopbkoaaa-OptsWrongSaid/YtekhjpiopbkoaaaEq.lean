/- slices.Equal at []byte, bafflekit.SameBytes. -/
import Derived.Test.YtekhjpiopbkoaaaCs
namespace Go.Proofs.Ytekhjpiopbkoaaa
open Go.RowKit

/-- Only draws have been made. -/
def SameW (w w' : World) : Prop := ∃ n, w' = w.drewN n
theorem SameW.fr {w w' : World} (h : SameW w w') : Fr [] w w' := by obtain ⟨n, rfl⟩ := h; exact (Fr.refl _ w).drewN n
theorem SameW.drewN {w w' : World} (h : SameW w w') (m : Nat) : SameW w (w'.drewN m) := by obtain ⟨n, rfl⟩ := h; exact ⟨n + m, World.drewN_drewN _ _ _⟩
def EqP (w : World) (xs ys : List UInt8) (e : Ending) (w' : World) : Prop := e = .returned (.bool (decide (xs = ys))) ∧ SameW w w'

theorem take_snoc {xs : List UInt8} {k : Nat} {x : UInt8} (h : xs[k]? = some x) : xs.take (k + 1) = xs.take k ++ [x] := by rw [List.take_add_one, h]; rfl
theorem cell_ne {x y : UInt8} : (((x.toNat : Int)) == (y.toNat : Int)) = decide (x = y) := by
  by_cases h : x = y
  · subst h; simp
  · simp only [h, decide_false]
    rw [beq_eq_false_iff_ne]
    intro e
    exact h (UInt8.toNat.inj (by omega))

set_option maxRecDepth 20000 in
set_option maxHeartbeats 1000000 in
theorem same_any (A B : Option Addr) (n m c d : Nat) (xs ys : List UInt8) (w : World) (hx : xs.length = n) (hy : ys.length = m) (ha : Rd w A (B8 xs)) (hb : Rd w B (B8 ys)) (hn : n ≤ 9223372036854775000) :
    Calls Try.prog 21 #[.slice A n c, .slice B m d] w (EqP w xs ys) := by
  by_cases hnm : n = m
  · subst hnm
    have H1 := Lib.hid hx
    have H2 := Lib.hid hy
    clear hx hy
    go_enter Try.func21, Try.ntmps21
    go_wp2
    go_loopw [5] (fun i wr => ∃ k : Nat, k ≤ n ∧ i = .int .i64 k ∧ xs.take k = ys.take k ∧ SameW w wr) (fun i _ => n - (intOf i).toNat)
    case atStart => exact ⟨0, Nat.zero_le _, rfl, rfl, 0, rfl⟩
    case round =>
      obtain ⟨k, hk, rfl, htk, nq, rfl⟩ := hrel
      have HT := Lib.hid htk
      clear htk
      by_cases hlt : k < n
      · have hkx : k < xs.length := by have := H1.out; omega
        have hky : k < ys.length := by have := H2.out; omega
        obtain ⟨b1, o1, rfl⟩ := rd_addr8 ha (by omega)
        obtain ⟨b2, o2, rfl⟩ := rd_addr8 hb (by omega)
        obtain ⟨x, hx0⟩ : ∃ x, xs[k]? = some x := ⟨_, List.getElem?_eq_getElem hkx⟩
        obtain ⟨y, hy0⟩ : ∃ y, ys[k]? = some y := ⟨_, List.getElem?_eq_getElem hky⟩
        have hc1 := rdj ha k x hx0
        have hc2 := rdj hb k y hy0
        have hs1 := Lib.hid (take_snoc hx0)
        have hs2 := Lib.hid (take_snoc hy0)
        have hX := Lib.hid hx0
        have hY := Lib.hid hy0
        have hi0 : (0 : Int) ≤ (k : Int) ∧ (k : Int) < (n : Int) := by omega
        clear ha hb hx0 hy0
        by_cases hxy : x = y
        · have hq : (((x.toNat : Int)) == (y.toNat : Int)) = true := by rw [cell_ne]; simpa using hxy
          go_wp2
          go_quiet (fail)
          go_wp2
          go_roundw
          case rel => exact ⟨k + 1, by omega, by go_num, by rw [hs1.out, hs2.out, HT.out, hxy], ⟨_, rfl⟩⟩
          case measure => simp [intOf]; omega
        · have hq : (((x.toNat : Int)) == (y.toNat : Int)) = false := by rw [cell_ne]; simpa using hxy
          have hne : decide (xs = ys) = false := by
            simp only [decide_eq_false_iff_not]
            intro e
            have h1 := hX.out
            rw [e, hY.out] at h1
            injection h1 with h1
            exact hxy h1.symm
          have HN := Lib.hid hne
          clear hne
          go_wp2
          go_quiet (fail)
          go_wp2
          go_ret
          exact ⟨by rw [HN.out]; rfl, ⟨_, World.drewN_drewN _ _ _⟩⟩
      · obtain rfl : k = n := by omega
        have hxy : xs = ys := by
          have h := HT.out
          rwa [List.take_of_length_le (by have := H1.out; omega), List.take_of_length_le (by have := H2.out; omega)] at h
        have HXY := Lib.hid hxy
        clear hxy
        go_wp2
        go_ret
        exact ⟨by rw [HXY.out]; simp, nq, rfl⟩
  · have hne : decide (xs = ys) = false := by
      simp only [decide_eq_false_iff_not]
      intro e
      subst e
      omega
    have HN := Lib.hid hne
    have hq : ((n : Int) == (m : Int)) = false := by rw [beq_eq_false_iff_ne]; omega
    clear hne hx hy ha hb
    go_enter Try.func21, Try.ntmps21
    go_wp2
    go_ret
    exact ⟨by rw [HN.out]; rfl, 0, rfl⟩
end Go.Proofs.Ytekhjpiopbkoaaa
