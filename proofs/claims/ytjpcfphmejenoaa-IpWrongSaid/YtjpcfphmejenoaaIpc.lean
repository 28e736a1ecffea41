/- What the walks of stage 5's laws share: packets turned, made packets in memory. -/
import Derived.Test.YtjpcfphmejenoaaImd
import Derived.Test.YtjpcfphmejenoaaAfl
namespace Go.Proofs.Ytjpcfphmejenoaa
open Go.RowKit
set_option linter.unusedVariables false
set_option maxRecDepth 100000

/-- Both addresses exchanged. -/
def swp (h : Hd) : Hd := { h with src := h.dst, dst := h.src }
theorem swp_swp (h : Hd) : swp (swp h) = h := rfl
theorem swp_o (h : Hd) : (swp h).o = h.o := rfl
theorem Fits.swp {h : Hd} {m : Nat} (f : Fits h m) : Fits (swp h) m := ⟨⟨f.b.tos, f.b.id, f.b.off, f.b.ttl, f.b.proto, f.b.dst, f.b.src⟩, f.o, f.off, f.n, f.mf⟩
theorem ck_swp {h : Hd} {m : Nat} (f : Fits h m) : ckN (swp h) (20 + h.o.length + m) = ckN h (20 + h.o.length + m) := by
  have ho := f.o
  have hn := f.n
  have h1 := f.fl
  have h2 := f.swp.fl
  have h3 := f.off
  rw [ckN_eq f.b ho.1 (by omega) (by omega), ckN_eq f.swp.b ho.1 (by omega) (by omega)]
  have : sm (swp h) (20 + h.o.length + m) = sm h (20 + h.o.length + m) := by
    unfold sm
    show 256 * (64 + (20 + h.o.length) / 4) + h.tos + (20 + h.o.length + m) + h.id + flN h + (256 * h.ttl + h.proto) + (h.dst / 65536 + h.dst % 65536) + (h.src / 65536 + h.src % 65536) + wsum h.o = _
    omega
  rw [this]
theorem trn_pk (h : Hd) (t c : Nat) (d : List UInt8) : put2 (put2 (put2 (put2 (pk h t c ++ d) 12 (h.dst / 65536)) 14 (h.dst % 65536)) 16 (h.src / 65536)) 18 (h.src % 65536) = pk (swp h) t c ++ d := rfl
theorem trn_wr {h : Hd} {d : List UInt8} (f : Fits h d.length) (rest : List UInt8) : trn (wrN h d ++ rest) = wrN (swp h) d := by
  obtain ⟨g, e1, e2, e3⟩ := good_wr f rest
  have es : lg (wrN h d ++ rest) 12 = h.src := congrArg Hd.src e1
  have ed : lg (wrN h d ++ rest) 16 = h.dst := congrArg Hd.dst e1
  have et : (wrN h d ++ rest).take (20 + h.o.length + d.length) = wrN h d := by
    rw [← wrN_length h d]; exact List.take_left
  unfold trn
  rw [e3, es, ed, et]
  unfold wrN hdrN
  rw [trn_pk]
  show _ = pk (swp h) (20 + h.o.length + d.length) (ckN (swp h) (20 + h.o.length + d.length)) ++ d
  rw [ck_swp f]
theorem wr_10 (h : Hd) (d : List UInt8) : (wrN h d)[10]? = some (hi8 (ckN h (20 + h.o.length + d.length))) := rfl
theorem wr_11 (h : Hd) (d : List UInt8) : (wrN h d)[11]? = some (lo8 (ckN h (20 + h.o.length + d.length))) := rfl
theorem wr_drop (h : Hd) (d : List UInt8) : (wrN h d).drop (20 + h.o.length) = d := by
  rw [← hdrN_length h (20 + h.o.length + d.length)]; exact List.drop_left
theorem rep8 (m : Nat) : List.replicate m (Value.int .u8 0) = B8 (List.replicate m 0) := by simp [B8]
theorem own_cc {w : World} {l : List UInt8} {N g c : Nat} {base : Nat} (o : w.ownsRow base 5 1 (.slice (some ⟨g, 0, none⟩) N c) N (B8 l)) : N ≤ c ∧ c ≤ maxLen := by
  obtain ⟨_, _, hv, h1, h2, _⟩ := own_slice o
  injection hv with _ _ h3
  subst h3
  exact ⟨h1, h2⟩
theorem rd_from {w : World} {g c k : Nat} {l : List UInt8} (h : Rd w (some ⟨g, 0, none⟩) (B8 l)) (hk : c = k → l.length ≤ k) : Rd w (if c = k then some ⟨g, 0, none⟩ else some ⟨g, k, none⟩) (B8 (l.drop k)) := by
  have h1 := rd_drop' h k
  rw [Nat.zero_add] at h1
  refine rd_ite (fun e => ?_) (fun _ => h1)
  rw [List.drop_of_length_le (hk e)]
  exact Rd.nil _ _
theorem BoxH.set7 {w : World} {g n c : Nat} {h : Hd} {A : Option Addr} (hB : BoxH w g h A n c) (z : Nat) : BoxH (w.setCell ⟨g, 7, none⟩ (.int .u32 z)) g { h with src := z } A n c := by
  unfold BoxH at hB ⊢
  simp [World.setCell, Array.getElem?_modify, hB]
theorem BoxH.set8 {w : World} {g n c : Nat} {h : Hd} {A : Option Addr} (hB : BoxH w g h A n c) (z : Nat) : BoxH (w.setCell ⟨g, 8, none⟩ (.int .u32 z)) g { h with dst := z } A n c := by
  unfold BoxH at hB ⊢
  simp [World.setCell, Array.getElem?_modify, hB]
theorem BoxH.set5 {w : World} {g n c : Nat} {h : Hd} {A : Option Addr} (hB : BoxH w g h A n c) (z : Nat) : BoxH (w.setCell ⟨g, 5, none⟩ (.int .u8 z)) g { h with ttl := z } A n c := by
  unfold BoxH at hB ⊢
  simp [World.setCell, Array.getElem?_modify, hB]
theorem BoxH.drewN {w : World} {g n c : Nat} {h : Hd} {A : Option Addr} (hB : BoxH w g h A n c) (k : Nat) : BoxH (w.drewN k) g h A n c := hB
end Go.Proofs.Ytjpcfphmejenoaa
