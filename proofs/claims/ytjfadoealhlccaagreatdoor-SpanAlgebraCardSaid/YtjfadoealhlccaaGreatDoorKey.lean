/- Keys: their texts, their order; ranges. -/
import Derived.Test.YtjfadoealhlccaaGreatDoorPre
namespace Go.Proofs.YtjfadoealhlccaaGreatDoor
open Go.RowKit
set_option linter.unusedVariables false
set_option maxRecDepth 20000

/-- A key as the program holds it. -/
def KV (k a b p q : Nat) : Value := .agg #[.int .u8 k, .int .u32 a, .int .u32 b, .int .u16 p, .int .u16 q]
structure KOK (k a b p q : Nat) : Prop where
  k : k < 256
  a : a < 4294967296
  b : b < 4294967296
  p : p < 65536
  q : q < 65536

/-- A key's cells. -/
structure KC (w : World) (g k a b p q : Nat) : Prop where
  c0 : w.cell? ⟨g, 0, none⟩ = some (.int .u8 k)
  c1 : w.cell? ⟨g, 1, none⟩ = some (.int .u32 a)
  c2 : w.cell? ⟨g, 2, none⟩ = some (.int .u32 b)
  c3 : w.cell? ⟨g, 3, none⟩ = some (.int .u16 p)
  c4 : w.cell? ⟨g, 4, none⟩ = some (.int .u16 q)
theorem KC.fr {S : List Nat} {w w' : World} {g k a b p q : Nat} (h : KC w g k a b p q) (hF : Fr S w w') (hg : g ∉ S) : KC w' g k a b p q :=
  ⟨hF.cell h.c0 hg, hF.cell h.c1 hg, hF.cell h.c2 hg, hF.cell h.c3 hg, hF.cell h.c4 hg⟩
theorem etext_len {a p : Nat} (ha : a < 4294967296) (hp : p < 65536) : (etext a p).length ≤ 21 := by
  have l1 := atext_len ha
  have l2 := dec_len5 hp
  unfold etext
  simp; omega
end Go.Proofs.YtjfadoealhlccaaGreatDoor
