/- SamePrefixes at slices that hold the same. -/
import Derived.Test.YteblkheodjibbaaDoorLit
namespace Go.Proofs.YteblkheodjibbaaDoor
open Go.RowKit
set_option linter.unusedVariables false
set_option maxRecDepth 20000

theorem CP_get {l : List (Nat × Nat)} {k : Nat} {x : Nat × Nat} (h : l[k]? = some x) : (CP l)[k * 2]? = some (.int .u32 x.1) ∧ (CP l)[k * 2 + 1]? = some (.int .u8 x.2) := by
  induction l generalizing k with
  | nil => simp at h
  | cons y l ih =>
    match k, h with
    | 0, h => simp at h; subst h; exact ⟨rfl, rfl⟩
    | k + 1, h =>
      have := ih (k := k) (by simpa using h)
      have e1 : (k + 1) * 2 = k * 2 + 2 := by omega
      rw [e1]
      exact this
theorem own_rd2 {w : World} {A : Option Addr} {base : Nat} {e : TypeId} {n c : Nat} {L : List (Nat × Nat)} (h : w.ownsRow base e 2 (.slice A n c) n (CP L)) : Rd w A (CP L) := fun j u hu => by
  rcases h.2 with ⟨hv, rfl⟩ | ⟨g, cap, cur, hv, _⟩
  · have : CP L = [] := List.eq_nil_of_length_eq_zero (by simpa using h.1)
    rw [this] at hu
    simp at hu
  · injection hv with hA
    subst hA
    exact ⟨_, rfl, h.cells (g := g) rfl j u hu⟩
theorem addr_of {w : World} {ad : Addr} {u : Value} (h : w.cell? ad = some u) : ∃ b o, ad = ⟨b, o, none⟩ := by
  obtain ⟨b, o, s⟩ := ad
  cases s with
  | none => exact ⟨b, o, rfl⟩
  | some s =>
    exfalso
    unfold World.cell? at h
    split at h <;> simp at h
theorem add_lit (b o j : Nat) : (⟨b, o, none⟩ : Addr).add j = ⟨b, o + j, none⟩ := by unfold Addr.add; split <;> simp_all
theorem rd_addr {w : World} {A : Option Addr} {xs : List Value} (h : Rd w A xs) (hx : 0 < xs.length) : ∃ b o, A = some ⟨b, o, none⟩ := by
  obtain ⟨ad, e, hc⟩ := h 0 xs[0] (List.getElem?_eq_getElem hx)
  obtain ⟨b, o, e2⟩ := addr_of hc
  obtain ⟨b', o', s⟩ := ad
  cases s with
  | none => exact ⟨b', o', e⟩
  | some s =>
    exfalso
    unfold Addr.add at e2
    simp at e2
theorem rdc {w : World} {b o : Nat} {l : List Value} (h : Rd w (some ⟨b, o, none⟩) l) (j : Nat) (u : Value) (hx : l[j]? = some u) : w.cell? ⟨b, o + j, none⟩ = some u := by
  have := h.get (j := j) (u := u) hx
  rwa [add_lit] at this
set_option maxHeartbeats 1000000 in
theorem sameP_any (A B : Option Addr) (n c d : Nat) (L : List (Nat × Nat)) (w : World) (hx : L.length = n) (ha : Rd w A (CP L)) (hb : Rd w B (CP L)) (hn : n ≤ 1000000) :
    Calls Tryd.prog 20 #[.slice A n c, .slice B n d] w fun e w' => e = .returned (.bool true) ∧ Fr [] w w' := by
  have H1 := Lib.hid hx
  clear hx
  go_enter Tryd.func20, Tryd.ntmps20
  go_wp2
  go_loopw [5] (fun i wr => ∃ k : Nat, k ≤ n ∧ i = .int .i64 k ∧ Fr [] w wr) (fun i _ => n - (intOf i).toNat)
  case atStart => exact ⟨0, Nat.zero_le _, rfl, Fr.refl _ _⟩
  case round =>
    obtain ⟨k, hk, rfl, hF⟩ := hrel
    by_cases hlt : k < n
    · obtain ⟨x, hx0⟩ : ∃ x, L[k]? = some x := ⟨_, List.getElem?_eq_getElem (by rw [H1.out]; exact hlt)⟩
      obtain ⟨x1, x2⟩ := CP_get hx0
      have hp : 0 < (CP L).length := by rw [CP_length, H1.out]; omega
      obtain ⟨b1, o1, rfl⟩ := rd_addr ha hp
      obtain ⟨b2, o2, rfl⟩ := rd_addr hb hp
      have ha2 := ha.fr hF (by simp)
      have hb2 := hb.fr hF (by simp)
      have p1 := rdc ha2 _ _ x1
      have p2 := rdc ha2 _ _ x2
      rw [← Nat.add_assoc] at p2
      have q1 := rdc hb2 _ _ x1
      have q2 := rdc hb2 _ _ x2
      rw [← Nat.add_assoc] at q2
      have HX := Lib.hid hx0
      clear hx0 ha hb ha2 hb2 x1 x2
      go_wp2
      have xp1 := xt_cell p1
      have xp2 := xt_cell p2
      have xq1 := xt_cell q1
      have xq2 := xt_cell q2
      refine wp_region_xt (by kernel_rfl) (by kernel_rfl) ?_
      repeat (go_big_quiet_step (fail))
      refine wpQuiet_nil ?_
      rintro w' ⟨y, rfl⟩
      have hy := hF.trans2 (xt_fr y) (fun _ h => by simp at h)
      go_wp2
      go_roundw
      case rel => exact ⟨k + 1, by omega, by go_num, hy⟩
      case measure => simp [intOf]; omega
    · obtain rfl : k = n := by omega
      go_wp2
      go_ret
      exact ⟨rfl, hF⟩
end Go.Proofs.YteblkheodjibbaaDoor
