/- slices.Clone at []byte. -/
import Derived.Test.YtjpcfphmejenoaaApp
import Derived.Test.YtjpcfphmejenoaaProg
namespace Go.Proofs.Ytjpcfphmejenoaa
open Go.RowKit

theorem info8 : (Try.prog.info? 5).map (fun i => (i.zero, i.size, i.bytes)) = some (some (.int .u8 0), 1, 1) := by kernel_rfl
theorem el8 : El Try.prog 23 5 1 1 := .of (z := .int .u8 0) Try.underlying23 info8 rfl (by decide)

set_option maxRecDepth 20000 in
set_option maxHeartbeats 400000 in
theorem clone_nil (n c : Nat) (w : World) :
    Calls Try.prog 35 #[.slice none n c] w fun e w' => e = .returned (.slice none 0 0) ∧ w = w' := by
  have he := Lib.run_eql_slice_nil (P := Try.prog) w 23 5 none n c 0 0 Try.underlying23
  go_enter Try.func35, Try.ntmps35
  go_wp2
  go_ret
  exact ⟨rfl, rfl⟩

set_option maxRecDepth 20000 in
set_option maxHeartbeats 400000 in
theorem clone_some (a : Addr) (n c : Nat) (bs : List UInt8) (w : World) (hl : bs.length = n) (hrd : Rd w (some a) (B8 bs)) (hn : n ≤ 140737488351232) :
    Calls Try.prog 35 #[.slice (some a) n c] w fun e w' => ∃ v, e = .returned v ∧ w'.ownsRow w.heap.size 5 1 v n (B8 bs) ∧ Fr [] w w' := by
  have he := Lib.run_eql_slice_nil (P := Try.prog) w 23 5 (some a) n c 0 0 Try.underlying23
  have hF : Fr [] w (w.alloc (.cells #[] 5)) := (Fr.refl _ _).alloc _
  obtain ⟨v', w', hr, ho, hg, _⟩ := app_run el8 (w.alloc (.cells #[] 5)) w.heap.size 23 (.slice (some ⟨w.heap.size, 0, none⟩) 0 0) 0 [] (World.ownsRow_lit w #[] 0 (Nat.le_refl _) (Nat.zero_le _) rfl)
    (some a) n c (B8 bs) (by rw [B8_length]; omega) (hrd.fr hF (by simp)) (B8_one bs) (by simp) (by unfold maxLen; omega) (by omega) (by simp)
  have hfr : Fr [] w w' := hF.trans2 (fr_grown hg) (by simp [Value.ownBlock])
  have ho' : w'.ownsRow w.heap.size 5 1 v' n (B8 bs) := by simpa using ho
  have HO := Lib.hid ho'
  clear ho ho' hg hF hrd hl
  go_enter Try.func35, Try.ntmps35
  go_wp2_with (at_builtin; refine wpList_app rfl _ _ _ rfl hr rfl rfl ?_)
  go_ret
  exact ⟨_, rfl, HO.out, hfr⟩

theorem nil_of_rd {w : World} {bs : List UInt8} (h : Rd w none (B8 bs)) : bs = [] := by
  cases bs with
  | nil => rfl
  | cons x _ => obtain ⟨_, h, _⟩ := h 0 _ rfl; cases h

theorem clone (A : Option Addr) (n c : Nat) (bs : List UInt8) (w : World) (hl : bs.length = n) (hrd : Rd w A (B8 bs)) (hn : n ≤ 140737488351232) :
    Calls Try.prog 35 #[.slice A n c] w fun e w' => ∃ v, e = .returned v ∧ w'.ownsRow w.heap.size 5 1 v n (B8 bs) ∧ Fr [] w w' := by
  cases A with
  | some a => exact clone_some a n c bs w hl hrd hn
  | none =>
    obtain rfl := nil_of_rd hrd
    simp only [List.length_nil] at hl
    subst hl
    refine (clone_nil 0 c w).mono ?_
    rintro e w' ⟨rfl, rfl⟩
    exact ⟨_, rfl, World.ownsRow_nil _ _ _ _, Fr.refl _ _⟩
end Go.Proofs.Ytjpcfphmejenoaa
