/- Triangulations: the specification's test. -/
import Derived.Test.YtjkmgdhndbdhoaaDgQ
import Derived.Test.YtjkmgdhndbdhoaaHsQ
import Derived.Test.YtjkmgdhndbdhoaaQg
namespace Go.Proofs.Ytjkmgdhndbdhoaa.M
open Go.RowKit Abs
set_option linter.unusedSimpArgs false
set_option linter.unusedVariables false
set_option maxRecDepth 100000
set_option maxHeartbeats 4000000
end Go.Proofs.Ytjkmgdhndbdhoaa.M
