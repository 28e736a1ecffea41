/- The words of some bytes: the range function, and Sum over it. -/
import Derived.Test.YtekhjpiopbkoaaaCs
import Derived.Test.YtekhjpiopbkoaaaStin
namespace Go.Proofs.Ytekhjpiopbkoaaa
open Go.RowKit Go.Shelf

attribute [local go_sem] Oper.semAt_some

theorem or16 (x y : UInt8) {A B : Int} (hA : A = x.toNat * 256) (hB : B = y.toNat) : bits BinOp.or IntKind.u16 A B = (256 * x.toNat + y.toNat : Nat) := by
  have hx := x.toNat_lt
  have hy := y.toNat_lt
  rw [show A = ((x.toNat * 256 : Nat) : Int) by omega, show B = ((y.toNat : Nat) : Int) by omega, u16_or_nat _ _ (by omega) (by omega), nat_join 8 _ _ (by omega) (by omega)]
  omega

theorem pairs_prefix {xs : List UInt8} {k : Nat} (hk : k % 2 = 0) : pairs (xs.take k) <+: pairs xs := by
  rcases Nat.lt_or_ge xs.length k with h | h
  · rw [List.take_of_length_le (by omega)]; exact List.prefix_refl _
  · refine ⟨pairs (xs.drop k), ?_⟩
    rw [← pairs_append _ _ (by rw [List.length_take]; omega), List.take_append_drop]

/-- What a round is given: a word as a pair of bytes. -/
def encW (p : UInt8 × UInt8) : Array Value := #[.int .u16 (wv p : Nat)]

theorem cell_far {g h : Nat} (w : World) (u : Value) (hne : g ≠ h) {i o : Nat} : (w.setCell ⟨g, i, none⟩ u).cell? ⟨h, o, none⟩ = w.cell? ⟨h, o, none⟩ :=
  World.cell?_of_block (Below.heap_setCell _ _ _ _ (fun e => hne (by simpa using e.symm)))
theorem rd_below {w w' : World} {B : Nat} {A : Option Addr} {xs : List UInt8} (h : Rd w A (B8 xs)) (hf : Below B w w') (hd : ∀ ad, A = some ad → 0 < xs.length → ad.block < B) : Rd w' A (B8 xs) := fun j u hu => by
  obtain ⟨ad, e, hc⟩ := h j u hu
  have hx : 0 < xs.length := by
    cases xs with
    | nil => simp [B8] at hu
    | cons => simp
  exact ⟨ad, e, (hf.cell (by rw [add_block]; exact hd ad e hx)).trans hc⟩
theorem rd_lt {w : World} {A : Option Addr} {xs : List UInt8} (h : Rd w A (B8 xs)) : ∀ ad, A = some ad → 0 < xs.length → ad.block < w.heap.size := fun ad e hx => by
  obtain ⟨ad', e', hc⟩ := h 0 _ (List.getElem?_eq_getElem (by rw [B8_length]; exact hx))
  rw [e] at e'
  injection e' with e'
  subst e'
  have := World.block_lt_of_cell? w _ hc
  rwa [add_block] at this

/-- What a round keeps: all that lay below n₀, and the box of the bytes. -/
def KpW (n₀ Bs : Nat) (W W' : World) : Prop := Below n₀ W W' ∧ ∀ v, W.cell? ⟨Bs, 0, none⟩ = some v → W'.cell? ⟨Bs, 0, none⟩ = some v
theorem kpW_t {n₀ Bs : Nat} {A B C : World} (h : KpW n₀ Bs A B) (k : KpW n₀ Bs B C) : KpW n₀ Bs A C := ⟨h.1.trans k.1, fun v hv => k.2 v (h.2 v hv)⟩
theorem kpW_b {n₀ Bs : Nat} {w : World} (hn : n₀ ≤ w.heap.size) (W : World) (l : Nat) (o o' : Obj) (hl : w.heap.size ≤ l) (h : W.heap[l]? = some o) (h1 : o.isCells = false) (h2 : o.isWalk = false) : KpW n₀ Bs W (W.putObj l o') :=
  ⟨belowK_b hn W l o o' hl h h1 h2, fun _ hv => cell_kept hv (grownBy_putObj' W l o') (fun r e => by cases e; exact ⟨o, h, h1⟩)⟩
theorem KpW.refl (n₀ Bs : Nat) (W : World) : KpW n₀ Bs W W := ⟨Below.refl _ _, fun _ h => h⟩
theorem KpW.drewN {n₀ Bs : Nat} {W W' : World} (h : KpW n₀ Bs W W') (k : Nat) : KpW n₀ Bs W (W'.drewN k) := ⟨⟨h.1.os, h.1.tape, h.1.output, h.1.size, h.1.block⟩, fun v hv => h.2 v hv⟩

end Go.Proofs.Ytekhjpiopbkoaaa
