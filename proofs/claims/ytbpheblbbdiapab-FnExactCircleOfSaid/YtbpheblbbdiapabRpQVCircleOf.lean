/- Rows that repeat a number. -/
import Derived.Test.YtbpheblbbdiapabQgVCircleOf
import Derived.Test.YtbpheblbbdiapabShelf
namespace Go.Proofs.Ytbpheblbbdiapab.M
open Go.RowKit Abs
set_option linter.unusedSimpArgs false
set_option linter.unusedVariables false
set_option maxRecDepth 100000
set_option maxHeartbeats 4000000
def rp (x : Int) (n m : Int) : List Int := List.replicate m.toNat x ++ List.replicate (n - m).toNat 0
end Go.Proofs.Ytbpheblbbdiapab.M
