/- IpWrong. -/
import Derived.Test.YtjpcfphmejenoaaIpwa
import Derived.Test.YtjpcfphmejenoaaIpwb
import Derived.Test.YtjpcfphmejenoaaIpwc
import Derived.Test.YtjpcfphmejenoaaIpwd
namespace Go.Proofs.Ytjpcfphmejenoaa
open Go.RowKit
set_option linter.unusedVariables false
set_option maxRecDepth 100000

theorem wrong_any (b : List Nat) (wo fa ma : Nat) (df mf : Bool) (A0 : Option Addr) (n0 c0 : Nat) (xs0 : List UInt8) (wy : Nat) (nn : Int) (w : World) (s0 : b.length = 12 ∧ (∀ x ∈ b, x < 256) ∧ wo < 256 ∧ fa < 256 ∧ ma < 256 ∧ xs0.length = n0 ∧ Rd w A0 (B8 xs0) ∧ (A0 = none → c0 = 0) ∧ n0 ≤ c0 ∧ c0 ≤ maxLen) (hwy : wy < 256) (hw : (Lit.int .i64 nn).wf = true) :
    Calls Try.prog 8 #[SV b wo fa ma df mf A0 n0 c0, .int .u8 wy, .int .i64 nn] w fun e w' => e = .returned (.bool true) ∧ Fr [] w w' := by
  have hq : (wy % 12 = 0 ∨ wy % 12 = 1 ∨ wy % 12 = 2) ∨ (wy % 12 = 3 ∨ wy % 12 = 4 ∨ wy % 12 = 5) ∨ (wy % 12 = 6 ∨ wy % 12 = 7 ∨ wy % 12 = 8) ∨ (wy % 12 = 9 ∨ wy % 12 = 10 ∨ wy % 12 = 11) := by omega
  rcases hq with hq | hq | hq | hq
  · exact wrong_a b wo fa ma df mf A0 n0 c0 xs0 wy nn w s0 hwy hw hq
  · exact wrong_b b wo fa ma df mf A0 n0 c0 xs0 wy nn w s0 hwy hw hq
  · exact wrong_c b wo fa ma df mf A0 n0 c0 xs0 wy nn w s0 hwy hw hq
  · exact wrong_d b wo fa ma df mf A0 n0 c0 xs0 wy nn w s0 hwy hw hq
end Go.Proofs.Ytjpcfphmejenoaa
