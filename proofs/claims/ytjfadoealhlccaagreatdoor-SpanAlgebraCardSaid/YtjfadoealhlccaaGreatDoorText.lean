/- The text of an address. -/
import Derived.Test.YtjfadoealhlccaaGreatDoorNumb
namespace Go.Proofs.YtjfadoealhlccaaGreatDoor
open Go.RowKit
set_option linter.unusedVariables false
set_option maxRecDepth 20000
end Go.Proofs.YtjfadoealhlccaaGreatDoor
