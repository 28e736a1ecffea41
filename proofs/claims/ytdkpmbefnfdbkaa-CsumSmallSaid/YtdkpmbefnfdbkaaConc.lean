/- slices.Grow and slices.Concat of two slices of bytes. -/
import Derived.Test.YtdkpmbefnfdbkaaAwk
namespace Go.Proofs.Ytdkpmbefnfdbkaa
open Go.RowKit

theorem own_cut {w : World} {base : Nat} {e : TypeId} {g n c k : Nat} {xs : List Value} (h : w.ownsRow base e 1 (.slice (some ⟨g, 0, none⟩) n c) n xs) (hk : k ≤ n) : w.ownsRow base e 1 (.slice (some ⟨g, 0, none⟩) k c) k (xs.take k) := by
  have hl := h.1
  refine ⟨by rw [List.length_take]; omega, ?_⟩
  rcases h.2 with ⟨h, _⟩ | ⟨g', cap, cur, h, hb, hg, hnc, hcm, hcs, htake⟩
  · simp at h
  · simp only [Value.slice.injEq, Option.some.injEq, Addr.mk.injEq, and_true, true_and] at h
    obtain ⟨rfl, rfl⟩ := h
    refine .inr ⟨g, c, cur, rfl, hb, hg, by omega, hcm, hcs, ?_⟩
    rw [← htake, List.take_take]
    congr 1
    omega

def GrowP (w : World) (e : Ending) (w' : World) : Prop := ∃ A c, e = .returned (.slice A 0 c) ∧ w'.ownsRow w.heap.size 5 1 (.slice A 0 c) 0 [] ∧ Fr [] w w'
set_option maxRecDepth 20000 in
set_option maxHeartbeats 1000000 in
theorem grow_any (n : Nat) (w : World) (hn : n ≤ 140737488351232) :
    Calls Try.prog 45 #[.slice none 0 0, .int .i64 n] w (GrowP w) := by
  have hd : decide ((n : Int) < 0) = false := by simp
  have hw : IntKind.i64.wrap (n : Int) = (n : Int) := IntWalk.i64_in _ (by omega)
  by_cases h : n = 0
  · subst h
    go_enter Try.func45, Try.ntmps45
    go_wp2
    go_ret
    exact ⟨_, _, rfl, World.ownsRow_nil _ _ _ _, Fr.refl _ _⟩
  · have hp : decide ((0 : Int) < (n : Int)) = true := by simp; omega
    have hp2 : decide (0 < n) = true := by simp; omega
    obtain ⟨v', w', hrun, ho, hg, _⟩ := zapp_run (P := Try.prog) (t := 22) (e := 5) (bytes := 1) (ti := 3) (k := .i64) (z := .int .u8 0) Try.underlying22 info8 rfl rfl Try.underlying3 w w.heap.size 22 (.slice none 0 0) 0 [] (World.ownsRow_nil _ _ _ _) n (by unfold maxLen; omega) (by omega) (Nat.le_refl _)
    have hF : Fr [] w w' := (fr_grown hg).mono (by simp [Value.ownBlock])
    obtain ⟨g, c, rfl, hgb, hnc, hcm⟩ := own_some ho (by omega)
    have ho2 := own_cut (k := 0) ho (by omega)
    rw [List.take_zero] at ho2
    have HO := Lib.hid ho2
    rw [Nat.zero_add] at hrun
    clear ho hg ho2 hgb
    have hcn : (0 : Int) ≤ (c : Int) := by omega
    go_enter Try.func45, Try.ntmps45
    go_wp2_with (at_builtin; refine wpList_app rfl _ _ _ rfl hrun rfl rfl ?_)
    go_ret
    exact ⟨_, _, rfl, HO.out, hF⟩

def ConcP (w : World) (zs : List UInt8) (n : Nat) (e : Ending) (w' : World) : Prop := ∃ A c, e = .returned (.slice A n c) ∧ w'.ownsRow w.heap.size 5 1 (.slice A n c) n (B8 zs) ∧ Fr [] w w'
theorem own_sl {w : World} {base : Nat} {e : TypeId} {v : Value} {n : Nat} {xs : List Value} (h : w.ownsRow base e 1 v n xs) : ∃ A c, v = .slice A n c := by
  obtain ⟨A, c, h, _⟩ := own_slice h
  exact ⟨A, c, h⟩
set_option maxRecDepth 20000 in
set_option maxHeartbeats 1000000 in
theorem concat2 {w : World} {gb : Nat} {A B : Option Addr} {n m c d : Nat} {xs ys : List UInt8} (hgb : Rd w (some ⟨gb, 0, none⟩) [.slice A n c, .slice B m d]) (hx : xs.length = n) (hy : ys.length = m) (ha : Rd w A (B8 xs)) (hb : Rd w B (B8 ys)) (hna : A = none → c = 0) (hnb : B = none → d = 0)
    (hn : n ≤ 3000) (hm : m ≤ 3000) : Calls Try.prog 19 #[.slice (some ⟨gb, 0, none⟩) 2 2] w (ConcP w (xs ++ ys) (n + m)) := by
  have hc1 : w.cell? ⟨gb, 0, none⟩ = some (.slice A n c) := rdc hgb 0 _ rfl
  have hc2 : w.cell? ⟨gb, 1, none⟩ = some (.slice B m d) := rdc hgb 1 _ rfl
  have hw1 : IntKind.i64.wrap (n : Int) = (n : Int) := IntWalk.i64_in _ (by omega)
  have hw2 : IntKind.i64.wrap ((n : Int) + (m : Int)) = (n : Int) + (m : Int) := IntWalk.i64_in _ (by omega)
  have hd1 : decide ((n : Int) < 0) = false := by simp
  have hd2 : decide ((n : Int) + (m : Int) < 0) = false := by simp; omega
  have hG := grow_any (n + m) w (by omega)
  rw [show ((n + m : Nat) : Int) = (n : Int) + (m : Int) by omega] at hG
  have HX := Lib.hid hx
  have HY := Lib.hid hy
  have HA := Lib.hid hna
  have HB := Lib.hid hnb
  clear hx hy hna hnb
  go_enter Try.func19, Try.ntmps19
  go_wp2
  refine wp_loop_rounds 3 ?_
  rw [rounds_succ]
  go_wp2_with fail
  rw [rounds_succ]
  go_wp2_with fail
  rw [rounds_succ]
  go_wp2_with fail
  refine hG.mono ?_
  rintro e w1 ⟨G, cg, rfl, ho, hF⟩
  clear hG hc1 hc2
  have hgb0 := hgb
  replace hgb := hgb.fr hF (by simp)
  have hc1 : w1.cell? ⟨gb, 0, none⟩ = some (.slice A n c) := rdc hgb 0 _ rfl
  obtain ⟨v2, w2, hr2, ho2, hg2, _⟩ := app_run el8 w1 w.heap.size 22 _ 0 [] ho A n c (B8 xs) (by rw [B8_length, HX.out]; omega) (ha.fr hF (by simp)) (B8_one xs) HA.out (by unfold maxLen; omega) (by omega) hF.size
  rw [Nat.zero_add, List.nil_append] at ho2
  obtain ⟨A2, c2, rfl⟩ := own_sl ho2
  have hF2 := hF.grown hg2 (fun k hk => .inr (ho.lt k hk).1)
  go_wp2_with fail
  refine wp_loop_rounds 3 ?_
  rw [rounds_succ]
  go_wp2_with (at_builtin; refine wpList_app rfl _ _ _ rfl hr2 rfl rfl ?_)
  clear hr2 hg2 ho hc1
  rw [rounds_succ]
  have hgb2 : Rd w2 (some ⟨gb, 0, none⟩) [.slice A n c, .slice B m d] := hgb0.fr hF2 (by simp)
  have hc2 : w2.cell? ⟨gb, 1, none⟩ = some (.slice B m d) := rdc hgb2 1 _ rfl
  obtain ⟨v3, w3, hr3, ho3, hg3, _⟩ := app_run el8 w2 w.heap.size 22 _ n _ ho2 B m d (B8 ys) (by rw [B8_length, HY.out]; omega) (hb.fr hF2 (by simp)) (B8_one ys) HB.out (by unfold maxLen; omega) (by omega) hF2.size
  obtain ⟨A3, c3, rfl⟩ := own_sl ho3
  have hF3 := hF2.grown hg3 (fun k hk => .inr (ho2.lt k hk).1)
  rw [← B8_append] at ho3
  have HO := Lib.hid ho3
  clear ho2 ho3 hg3
  go_wp2_with (at_builtin; refine wpList_app rfl _ _ _ rfl hr3 rfl rfl ?_)
  rw [rounds_succ]
  go_wp2_with fail
  go_ret
  exact ⟨_, _, rfl, HO.out, hF3⟩
end Go.Proofs.Ytdkpmbefnfdbkaa
