/- Diagonals: the lists of all of them, on both sides. -/
import Derived.Test.YtjkmgdhndbdhoaaDbQ
namespace Go.Proofs.Ytjkmgdhndbdhoaa.M
open Go.RowKit Abs
set_option linter.unusedSimpArgs false
set_option linter.unusedVariables false
set_option maxRecDepth 100000
set_option maxHeartbeats 4000000
end Go.Proofs.Ytjkmgdhndbdhoaa.M
