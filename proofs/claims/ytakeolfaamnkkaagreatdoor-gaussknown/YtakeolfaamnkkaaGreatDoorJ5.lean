/- My texts on the way to GaussKnown, one behind the other: contracts of the program and of the document's answers. -/
import Derived.Test.YtakeolfaamnkkaaGreatDoorJ1
import Derived.Test.YtakeolfaamnkkaaGreatDoorJ4
import Derived.Test.YtakeolfaamnkkaaGreatDoorChecked
import Derived.Handy
import Derived.RegionTactic
import Derived.ChangeAlike
import Derived.Deep.RegionHeld3
import Derived.Deep.QuietTactic
import Derived.BigQuiet
/- Boxes made one behind the other; drawing keeps what is below. -/
namespace Go.Proofs.YtakeolfaamnkkaaGreatDoor
open Go.RowKit
set_option linter.unusedVariables false

end Go.Proofs.YtakeolfaamnkkaaGreatDoor

