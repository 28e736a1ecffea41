/- The plain mathematics of a hop. -/
import Derived.Test.YtjpcfphmejenoaaIpc
namespace Go.Proofs.Ytjpcfphmejenoaa
open Go.RowKit
set_option linter.unusedVariables false
set_option maxRecDepth 100000

/-- A header with another TTL. -/
def hT (h : Hd) (t : Nat) : Hd := { h with ttl := t }
theorem Fits.hT {h : Hd} {m : Nat} (f : Fits h m) {t : Nat} (ht : t < 256) : Fits (hT h t) m := ⟨⟨f.b.tos, f.b.id, f.b.off, ht, f.b.proto, f.b.src, f.b.dst⟩, f.o, f.off, f.n, f.mf⟩
theorem hop_hT (h : Hd) (t : Nat) : hopH (hT h t) = hT h (t - 1) := rfl
theorem hT_hT (h : Hd) (s t : Nat) : { hT h s with ttl := t } = hT h t := rfl
theorem fold_le' (s : Nat) : fold s ≤ 65535 := fold_le s
theorem hop_check {h : Hd} {m t : Nat} (f : Fits h m) (h1 : 1 ≤ t) (h2 : t < 256) :
    upd (ckN (hT h t) (20 + h.o.length + m)) (256 * (t - 1) + h.proto + 256) (256 * (t - 1) + h.proto) = ckN (hT h (t - 1)) (20 + h.o.length + m) := by
  have fa := f.hT h2
  have fb := f.hT (show t - 1 < 256 by omega)
  have ho := f.o
  have hn := f.n
  have hf := f.off
  have hp := f.b.proto
  have e1 := ckN_eq fa.b ho.1 (by have := fa.fl; omega) (show 20 + h.o.length + m < 65536 by omega)
  have e2 := ckN_eq fb.b ho.1 (by have := fb.fl; omega) (show 20 + h.o.length + m < 65536 by omega)
  have e3 : sm (hT h t) (20 + h.o.length + m) = sm (hT h (t - 1)) (20 + h.o.length + m) + 256 := by
    unfold sm
    show 256 * (64 + (20 + h.o.length) / 4) + h.tos + (20 + h.o.length + m) + h.id + flN h + (256 * t + h.proto) + (h.src / 65536 + h.src % 65536) + (h.dst / 65536 + h.dst % 65536) + wsum h.o = 256 * (64 + (20 + h.o.length) / 4) + h.tos + (20 + h.o.length + m) + h.id + flN h + (256 * (t - 1) + h.proto) + (h.src / 65536 + h.src % 65536) + (h.dst / 65536 + h.dst % 65536) + wsum h.o + 256
    omega
  have e4 := sm_pos (hT h (t - 1)) (20 + h.o.length + m)
  rw [e1, e2, e3]
  generalize sm (hT h (t - 1)) (20 + h.o.length + m) = s at *
  unfold upd
  have l1 := fold_le (s + 256)
  have e5 : 65535 - (65535 - fold (s + 256)) + (65535 - (256 * (t - 1) + h.proto + 256)) + (256 * (t - 1) + h.proto) = fold (s + 256) + 65279 ∨ 65280 ≤ 256 * (t - 1) + h.proto + 256 := by omega
  rcases e5 with e5 | e5
  · rw [e5, fold_add, fold_eq (a := s + 256 + 65279) (b := s) (by omega) (by omega)]
  · have e6 : 65535 - (65535 - fold (s + 256)) + (65535 - (256 * (t - 1) + h.proto + 256)) + (256 * (t - 1) + h.proto) = fold (s + 256) + 65279 ∨ 65536 ≤ 256 * (t - 1) + h.proto + 256 := by omega
    rcases e6 with e6 | e6
    · rw [e6, fold_add, fold_eq (a := s + 256 + 65279) (b := s) (by omega) (by omega)]
    · omega
theorem orN (a b : Nat) (ha : a < 256) (hb : b < 256) : bits BinOp.or IntKind.u16 ((a : Int) * 256) (b : Int) = ((256 * a + b : Nat) : Int) := by
  have e1 : a = (UInt8.ofNat a).toNat := (u8_nat ha).symm
  have e2 : b = (UInt8.ofNat b).toNat := (u8_nat hb).symm
  rw [e1, e2]
  exact or16 _ _ rfl rfl
theorem wr_get10 (h : Hd) (d rest : List UInt8) : (wrN h d ++ rest)[10]? = some (hi8 (ckN h (20 + h.o.length + d.length))) := rfl
theorem wr_get11 (h : Hd) (d rest : List UInt8) : (wrN h d ++ rest)[11]? = some (lo8 (ckN h (20 + h.o.length + d.length))) := rfl
theorem app_u8 {P : Program} {t e ti t8 : TypeId} {k : IntKind} {k8 : IntKind} (ht : P.underlying t = some (.slice e)) (hti : P.underlying ti = some (.int k)) (ht8 : P.underlying t8 = some (.int k8)) (ty : TypeId) (A : Option Addr) (n c : Nat) (m : Int) (kv : IntKind) (w : World) :
    (Builtin.append_ #[t, t8] ty #[.slice A n c, .int kv m]).run P w = (Builtin.append_ #[t, ti] ty #[.slice A n c, .int .i64 m]).run P w := by
  simp [Builtin.append_, run_underlying ht, run_underlying hti, run_underlying ht8, asInt, asIntOf]
theorem not16 (b : Nat) (hb : b < 65536) : ∃ F : Nat, bits .xor .u16 65535 (b : Int) = (F : Int) ∧ F ≠ b := by
  have hx : 65535 ^^^ b < 2 ^ 16 := Nat.xor_lt_two_pow (by omega) (by omega)
  have h1 : (BitVec.ofInt 16 (65535 : Int)).toNat = 65535 := by decide
  have h2 : (BitVec.ofInt 16 (b : Int)).toNat = b := by
    rw [BitVec.ofInt_natCast, BitVec.toNat_ofNat]; exact Nat.mod_eq_of_lt (by omega)
  refine ⟨65535 ^^^ b, ?_, ?_⟩
  · show IntKind.u16.wrap ((BitVec.ofInt 16 (65535 : Int) ^^^ BitVec.ofInt 16 (b : Int)).toNat : Int) = _
    rw [BitVec.toNat_xor, h1, h2, u16_mod]
    omega
  · intro e
    have h3 : (65535 ^^^ b) ^^^ b = b ^^^ b := by rw [e]
    rw [Nat.xor_assoc, Nat.xor_self, Nat.xor_zero] at h3
    omega
end Go.Proofs.Ytjpcfphmejenoaa
