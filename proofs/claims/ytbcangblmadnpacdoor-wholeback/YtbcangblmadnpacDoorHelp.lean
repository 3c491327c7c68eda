/- What the laws' own example says. -/
import Derived.Test.YtbcangblmadnpacDoorHelp0
import Derived.Test.YtbcangblmadnpacDoorPrint
namespace Go.Proofs.YtbcangblmadnpacDoor
open Go.RowKit
set_option linter.unusedVariables false

theorem digits_ex : Lib.decDigits 4294967296 = [52, 50, 57, 52, 57, 54, 55, 50, 57, 54] := by simp [Lib.decDigits]

end Go.Proofs.YtbcangblmadnpacDoor
