/- The text of an address. -/
import Derived.Test.YteblkheodjibbaaDoorNumb
namespace Go.Proofs.YteblkheodjibbaaDoor
open Go.RowKit
set_option linter.unusedVariables false
set_option maxRecDepth 20000
set_option maxHeartbeats 1000000 in
theorem text_any (a : Nat) (ha : a < 4294967296) (W : World) (hV : VV W) : Calls Tryd.prog 7 #[.int .u32 a] W fun e w' => e = .returned (.string ⟨(atext a).toArray⟩) ∧ Fr [] W w' := by
  have w1 : IntKind.u8.wrap ((a : Int) / 16777216) = ((a / 16777216 : Nat) : Int) := by rw [IntKind.wrap_u8]; omega
  have w2 : IntKind.u8.wrap ((a : Int) / 65536) = ((a / 65536 % 256 : Nat) : Int) := by rw [IntKind.wrap_u8]; omega
  have w3 : IntKind.u8.wrap ((a : Int) / 256) = ((a / 256 % 256 : Nat) : Int) := by rw [IntKind.wrap_u8]; omega
  have w4 : IntKind.u8.wrap (a : Int) = ((a % 256 : Nat) : Int) := by rw [IntKind.wrap_u8]; omega
  have h1 : a / 16777216 < 256 := by omega
  have h2 : a / 65536 % 256 < 256 := by omega
  have h3 : a / 256 % 256 < 256 := by omega
  have h4 : a % 256 < 256 := by omega
  unfold atext
  generalize a / 16777216 = p at w1 h1 ⊢
  generalize a / 65536 % 256 = q at w2 h2 ⊢
  generalize a / 256 % 256 = r at w3 h3 ⊢
  generalize a % 256 = s at w4 h4 ⊢
  have l1 := dec_len3 h1
  have l2 := dec_len3 h2
  have l3 := dec_len3 h3
  have l4 := dec_len3 h4
  have n1 : ¬ 9223372036854775807 < (dec p).length + 1 := by omega
  have n2 : ¬ 9223372036854775807 < (dec p).length + 1 + (dec q).length := by omega
  have n3 : ¬ 9223372036854775807 < (dec p).length + 1 + (dec q).length + 1 := by omega
  have n4 : ¬ 9223372036854775807 < (dec p).length + 1 + (dec q).length + 1 + (dec r).length := by omega
  have n5 : ¬ 9223372036854775807 < (dec p).length + 1 + (dec q).length + 1 + (dec r).length + 1 := by omega
  have n6 : ¬ 9223372036854775807 < (dec p).length + 1 + (dec q).length + 1 + (dec r).length + 1 + (dec s).length := by omega
  clear l1 l2 l3 l4
  go_enter Tryd.func7, Tryd.ntmps7
  go_wp2_with fail
  refine (dec8_any p h1 W hV).mono ?_
  rintro e W1 ⟨rfl, hF⟩
  have hV1 := hV.fr hF
  go_wp2_with fail
  refine (dec8_any q h2 _ hV1).mono ?_
  rintro e W2 ⟨rfl, hF2⟩
  replace hF := hF.trans hF2
  have hV2 := hV1.fr hF2
  clear hF2 hV1
  go_wp2_with fail
  refine (dec8_any r h3 _ hV2).mono ?_
  rintro e W3 ⟨rfl, hF2⟩
  replace hF := hF.trans hF2
  have hV3 := hV2.fr hF2
  clear hF2 hV2
  go_wp2_with fail
  refine (dec8_any s h4 _ hV3).mono ?_
  rintro e W4 ⟨rfl, hF2⟩
  replace hF := hF.trans hF2
  clear hF2 hV3
  go_wp2_with fail
  go_ret
  refine ⟨?_, hF⟩
  show Ending.returned (Value.string _) = _
  congr 2
  apply ByteArray.ext
  simp [ByteArray.data_append, quad]
end Go.Proofs.YteblkheodjibbaaDoor
