/- Keys: their texts, their order; ranges. -/
import Derived.Test.YteblkheodjibbaaDoorPre
namespace Go.Proofs.YteblkheodjibbaaDoor
open Go.RowKit
set_option linter.unusedVariables false
set_option maxRecDepth 20000

set_option maxHeartbeats 1000000 in
theorem endText_any (a p : Nat) (ha : a < 4294967296) (hp : p < 65536) (W : World) (hV : VV W) : Calls Tryd.prog 28 #[.int .u32 a, .int .u16 p] W fun e w' => e = .returned (.string ⟨(etext a p).toArray⟩) ∧ Fr [] W w' := by
  have l1 := atext_len ha
  have l2 := dec_len5 hp
  have n1 : ¬ 9223372036854775807 < (atext a).length + 1 := by omega
  have n2 : ¬ 9223372036854775807 < (atext a).length + 1 + (dec p).length := by omega
  clear l1 l2
  go_enter Tryd.func28, Tryd.ntmps28
  go_wp2_with fail
  refine (text_any a ha _ hV).mono ?_
  rintro e w1 ⟨rfl, hF1⟩
  have hV1 := hV.fr hF1
  go_wp2_with fail
  refine (dec16_any p hp _ hV1).mono ?_
  rintro e w2 ⟨rfl, hF2⟩
  go_wp2_with fail
  go_ret
  refine ⟨congrArg (fun s => Ending.returned (Value.string s)) (ByteArray.ext ?_), hF1.trans hF2⟩
  simp [ByteArray.data_append, etext]

/-- A key as the program holds it. -/
def KV (k a b p q : Nat) : Value := .agg #[.int .u8 k, .int .u32 a, .int .u32 b, .int .u16 p, .int .u16 q]
structure KOK (k a b p q : Nat) : Prop where
  k : k < 256
  a : a < 4294967296
  b : b < 4294967296
  p : p < 65536
  q : q < 65536

/-- A key's cells. -/
structure KC (w : World) (g k a b p q : Nat) : Prop where
  c0 : w.cell? ⟨g, 0, none⟩ = some (.int .u8 k)
  c1 : w.cell? ⟨g, 1, none⟩ = some (.int .u32 a)
  c2 : w.cell? ⟨g, 2, none⟩ = some (.int .u32 b)
  c3 : w.cell? ⟨g, 3, none⟩ = some (.int .u16 p)
  c4 : w.cell? ⟨g, 4, none⟩ = some (.int .u16 q)
theorem kc_new (W : World) (k a b p q : Nat) : KC (W.alloc (.cells #[.int .u8 k, .int .u32 a, .int .u32 b, .int .u16 p, .int .u16 q] 27)) W.heap.size k a b p q :=
  ⟨new_cell _ _ _ 0 _ rfl, new_cell _ _ _ 1 _ rfl, new_cell _ _ _ 2 _ rfl, new_cell _ _ _ 3 _ rfl, new_cell _ _ _ 4 _ rfl⟩
theorem KC.fr {S : List Nat} {w w' : World} {g k a b p q : Nat} (h : KC w g k a b p q) (hF : Fr S w w') (hg : g ∉ S) : KC w' g k a b p q :=
  ⟨hF.cell h.c0 hg, hF.cell h.c1 hg, hF.cell h.c2 hg, hF.cell h.c3 hg, hF.cell h.c4 hg⟩
theorem etext_len {a p : Nat} (ha : a < 4294967296) (hp : p < 65536) : (etext a p).length ≤ 21 := by
  have l1 := atext_len ha
  have l2 := dec_len5 hp
  unfold etext
  simp; omega
set_option maxHeartbeats 1000000 in
theorem keyText_any (k a b p q : Nat) (H : KOK k a b p q) (W : World) (hV : VV W) : Calls Tryd.prog 12 #[KV k a b p q] W fun e w' => e = .returned (.string ⟨(ktext k a p b q).toArray⟩) ∧ Fr [] W w' := by
  obtain ⟨hk, ha, hb, hp, hq⟩ := H
  have l1 := dec_len3 hk
  have l2 := etext_len ha hp
  have l3 := etext_len hb hq
  have n1 : ¬ 9223372036854775807 < (dec k).length + 1 := by omega
  have n2 : ¬ 9223372036854775807 < (dec k).length + 1 + (etext a p).length := by omega
  have n3 : ¬ 9223372036854775807 < (dec k).length + 1 + (etext a p).length + 1 := by omega
  have n4 : ¬ 9223372036854775807 < (dec k).length + 1 + (etext a p).length + 1 + (etext b q).length := by omega
  clear l1 l2 l3
  unfold KV
  go_enter Tryd.func12, Tryd.ntmps12
  go_wp2_with fail
  have hF0 : Fr [] W (W.alloc (.cells #[.int .u8 k, .int .u32 a, .int .u32 b, .int .u16 p, .int .u16 q] 27)) := (Fr.refl [] W).alloc _
  have hV0 := hV.fr hF0
  have hK := kc_new W k a b p q
  generalize W.alloc (.cells #[.int .u8 k, .int .u32 a, .int .u32 b, .int .u16 p, .int .u16 q] 27) = w0 at hF0 hV0 hK ⊢
  have x0 := xt_cell hK.c0
  have x1 := xt_cell hK.c1
  have x2 := xt_cell hK.c2
  have x3 := xt_cell hK.c3
  have x4 := xt_cell hK.c4
  clear hK
  refine wp_region_xt (by kernel_rfl) (by kernel_rfl) ?_
  repeat (go_big_quiet_step ((first
    | (go_at_call 24; exact Calls.xt (fun W' hW' => dec8_any k hk W' (hV0.fr hW')) _)
    | (go_at_call_of 28 (Value.int .u32 a); exact Calls.xt (fun W' hW' => endText_any a p ha hp W' (hV0.fr hW')) _)
    | (go_at_call_of 28 (Value.int .u32 b); exact Calls.xt (fun W' hW' => endText_any b q hb hq W' (hV0.fr hW')) _))))
  refine wpQuiet_nil ?_
  rintro w2 ⟨x, rfl⟩
  have hF2 := xt_fr x
  go_wp2
  go_ret
  refine ⟨congrArg (fun s => Ending.returned (Value.string s)) (ByteArray.ext ?_), hF0.trans hF2⟩
  simp [ByteArray.data_append, ktext]

end Go.Proofs.YteblkheodjibbaaDoor
