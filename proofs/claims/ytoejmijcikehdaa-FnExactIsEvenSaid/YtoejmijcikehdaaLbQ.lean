/- The labels of parts, in the program. -/
import Derived.Test.YtoejmijcikehdaaLaQ
import Derived.Test.YtoejmijcikehdaaQg
namespace Go.Proofs.Ytoejmijcikehdaa.M
open Go.RowKit Abs
set_option linter.unusedSimpArgs false
set_option linter.unusedVariables false
set_option maxRecDepth 100000
set_option maxHeartbeats 4000000
end Go.Proofs.Ytoejmijcikehdaa.M
