/- My texts on the way to GaussTexts, one behind the other: contracts of the program and of the document's answers. -/
import Derived.Test.YtdgecalkhbbkoaaGreatDoorJ1
import Derived.Test.YtdgecalkhbbkoaaGreatDoorJ3
import Derived.Test.YtdgecalkhbbkoaaGreatDoorChecked
import Derived.Handy
import Derived.RegionTactic
import Derived.ChangeAlike
import Derived.Deep.RegionHeld3
import Derived.Deep.QuietTactic
import Derived.BigQuiet
/- Boxes made one behind the other; drawing keeps what is below. -/
namespace Go.Proofs.YtdgecalkhbbkoaaGreatDoor
open Go.RowKit
set_option linter.unusedVariables false

end Go.Proofs.YtdgecalkhbbkoaaGreatDoor

