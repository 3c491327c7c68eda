/- nat.leap: one more of Euclid's steps, and whether it holds. -/
import Derived.Test.YtbcangblmadnpacDoorGcd1
import Derived.BigQuiet
import Derived.Handy
namespace Go.Proofs.YtbcangblmadnpacDoor
open Go.RowKit
set_option linter.unusedVariables false

/-- A leap's value. -/
def leapV (s a b c d : Int) : Value := .agg #[.int .i64 s, .int .i64 a, .int .i64 b, .int .i64 c, .int .i64 d]

end Go.Proofs.YtbcangblmadnpacDoor
