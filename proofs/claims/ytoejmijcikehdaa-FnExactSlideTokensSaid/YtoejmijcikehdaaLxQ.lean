/- The literal that is met if a variable has a number. -/
import Derived.Test.YtoejmijcikehdaaIgQ
import Derived.Test.YtoejmijcikehdaaQg
namespace Go.Proofs.Ytoejmijcikehdaa.M
open Go.RowKit Abs
set_option linter.unusedSimpArgs false
set_option linter.unusedVariables false
set_option maxRecDepth 100000
set_option maxHeartbeats 4000000
def litF (v b : Int) : Int := if b = 1 then v + 1 else -1 - v
end Go.Proofs.Ytoejmijcikehdaa.M
