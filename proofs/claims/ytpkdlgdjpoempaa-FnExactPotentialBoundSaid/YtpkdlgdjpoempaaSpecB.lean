/- Graphs: what the specification's functions answer. -/
import Derived.Test.YtpkdlgdjpoempaaSpecA
namespace Go.Proofs.Ytpkdlgdjpoempaa.Abs
open Go.RowKit
set_option linter.unusedVariables false
set_option linter.unusedSimpArgs false
set_option maxHeartbeats 4000000

def graphOk (n : Int) (l : List (Int × Int)) : Bool := decide (0 ≤ n ∧ n ≤ 8) && pairsOk l n
end Go.Proofs.Ytpkdlgdjpoempaa.Abs