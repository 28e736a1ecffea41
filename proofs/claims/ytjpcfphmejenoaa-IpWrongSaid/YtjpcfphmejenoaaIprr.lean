/- Right. -/
import Derived.Test.YtjpcfphmejenoaaIpr
namespace Go.Proofs.Ytjpcfphmejenoaa
open Go.RowKit
set_option linter.unusedVariables false
set_option maxRecDepth 100000

theorem ix30 (a b c : Array Value) (f g h : Fn) (w : World) : (Instr.index 54 (.agg #[.func f a #[], .func g b #[], .func h c #[]]) (.int .i64 0)).run Try.prog w = .ok (.func f a #[]) w := by kernel_rfl
theorem ix31 (a b c : Array Value) (f g h : Fn) (w : World) : (Instr.index 54 (.agg #[.func f a #[], .func g b #[], .func h c #[]]) (.int .i64 1)).run Try.prog w = .ok (.func g b #[]) w := by kernel_rfl
theorem ix32 (a b c : Array Value) (f g h : Fn) (w : World) : (Instr.index 54 (.agg #[.func f a #[], .func g b #[], .func h c #[]]) (.int .i64 2)).run Try.prog w = .ok (.func h c #[]) w := by kernel_rfl
theorem right_ways {r b1 b2 b3 : Bool} (h : r = (b1 && (b2 && b3))) : (b1 = false ∧ r = false) ∨ (b1 = true ∧ b2 = false ∧ r = false) ∨ (b1 = true ∧ b2 = true ∧ b3 = false ∧ r = false) ∨ (b1 = true ∧ b2 = true ∧ b3 = true ∧ r = true) := by
  subst h; cases b1 <;> cases b2 <;> cases b3 <;> simp

set_option maxHeartbeats 4000000 in
theorem right5_any (h : Hd) (A : Option Addr) (n c : Nat) (z : Int) (w : World) (hl : h.o.length = n) (hn : n ≤ 140737488351232) (ho : -9223372036854775808 ≤ h.off ∧ h.off ≤ 9223372036854775807) :
    Calls Try.prog 12 #[HV h A n c, .int .i64 z] w fun e w' => e = .returned (.bool (rightB h z)) ∧ Fr [] w w' := by
  have c1 := fun W => room_any h A n c z W hn
  have c2 := fun W => place_any h A n c z W ho
  have c3 := fun W => part_any h A n c z W
  have HE : rightB h z = (roomB n z && (placeB h.off z && partB h.mf z)) := by
    unfold rightB; rw [hl]
  generalize rightB h z = r at HE ⊢
  generalize roomB n z = b1 at c1 HE
  generalize placeB h.off z = b2 at c2 HE
  generalize partB h.mf z = b3 at c3 HE
  unfold HV at c1 c2 c3 ⊢
  have i0 := ix30
  have i1 := ix31
  have i2 := ix32
  have hF : Fr [] w (w.alloc (.cells #[.int .u8 h.tos, .int .u16 h.id, .bool h.df, .bool h.mf, .int .i64 h.off, .int .u8 h.ttl, .int .u8 h.proto, .int .u32 h.src, .int .u32 h.dst, .slice A n c] 30)) := (Fr.refl _ _).alloc _
  clear hl ho
  rcases right_ways HE with ⟨rfl, rfl⟩ | ⟨rfl, rfl, rfl⟩ | ⟨rfl, rfl, rfl, rfl⟩ | ⟨rfl, rfl, rfl, rfl⟩
  · clear HE
    have C1 := Lib.hid c1
    have C2 := Lib.hid c2
    have C3 := Lib.hid c3
    clear c1 c2 c3
    go_enter Try.func12, Try.ntmps12
    go_wp2_with fail
    refine wp_loop_rounds 4 ?_
    rw [rounds_succ]
    go_wp2_with fail
    refine (C1.out _).mono ?_
    rintro e w1 ⟨rfl, hF1⟩
    replace hF := hF.trans hF1
    clear hF1
    go_wp2_with fail
    go_ret
    exact ⟨rfl, hF⟩
  · clear HE
    have C1 := Lib.hid c1
    have C2 := Lib.hid c2
    have C3 := Lib.hid c3
    clear c1 c2 c3
    go_enter Try.func12, Try.ntmps12
    go_wp2_with fail
    refine wp_loop_rounds 4 ?_
    rw [rounds_succ]
    go_wp2_with fail
    refine (C1.out _).mono ?_
    rintro e w1 ⟨rfl, hF1⟩
    replace hF := hF.trans hF1
    clear hF1
    go_wp2_with fail
    rw [rounds_succ]
    go_wp2_with fail
    refine (C2.out _).mono ?_
    rintro e w2 ⟨rfl, hF2⟩
    replace hF := hF.trans hF2
    clear hF2
    go_wp2_with fail
    go_ret
    exact ⟨rfl, hF⟩
  · clear HE
    have C1 := Lib.hid c1
    have C2 := Lib.hid c2
    have C3 := Lib.hid c3
    clear c1 c2 c3
    go_enter Try.func12, Try.ntmps12
    go_wp2_with fail
    refine wp_loop_rounds 4 ?_
    rw [rounds_succ]
    go_wp2_with fail
    refine (C1.out _).mono ?_
    rintro e w1 ⟨rfl, hF1⟩
    replace hF := hF.trans hF1
    clear hF1
    go_wp2_with fail
    rw [rounds_succ]
    go_wp2_with fail
    refine (C2.out _).mono ?_
    rintro e w2 ⟨rfl, hF2⟩
    replace hF := hF.trans hF2
    clear hF2
    go_wp2_with fail
    rw [rounds_succ]
    go_wp2_with fail
    refine (C3.out _).mono ?_
    rintro e w3 ⟨rfl, hF3⟩
    replace hF := hF.trans hF3
    clear hF3
    go_wp2_with fail
    go_ret
    exact ⟨rfl, hF⟩
  · clear HE
    have C1 := Lib.hid c1
    have C2 := Lib.hid c2
    have C3 := Lib.hid c3
    clear c1 c2 c3
    go_enter Try.func12, Try.ntmps12
    go_wp2_with fail
    refine wp_loop_rounds 4 ?_
    rw [rounds_succ]
    go_wp2_with fail
    refine (C1.out _).mono ?_
    rintro e w1 ⟨rfl, hF1⟩
    replace hF := hF.trans hF1
    clear hF1
    go_wp2_with fail
    rw [rounds_succ]
    go_wp2_with fail
    refine (C2.out _).mono ?_
    rintro e w2 ⟨rfl, hF2⟩
    replace hF := hF.trans hF2
    clear hF2
    go_wp2_with fail
    rw [rounds_succ]
    go_wp2_with fail
    refine (C3.out _).mono ?_
    rintro e w3 ⟨rfl, hF3⟩
    replace hF := hF.trans hF3
    clear hF3
    go_wp2_with fail
    rw [rounds_succ]
    go_wp2_with fail
    go_ret
    exact ⟨rfl, hF⟩
end Go.Proofs.Ytjpcfphmejenoaa
