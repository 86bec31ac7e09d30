/- Triangulations: the specification's test. -/
import Derived.Test.YtlfdimhnielleaaDgQVPolygonSpace
import Derived.Test.YtlfdimhnielleaaHsQVPolygonSpace
import Derived.Test.YtlfdimhnielleaaQgVPolygonSpace
namespace Go.Proofs.Ytlfdimhnielleaa.M
open Go.RowKit Abs
set_option linter.unusedSimpArgs false
set_option linter.unusedVariables false
set_option maxRecDepth 100000
set_option maxHeartbeats 4000000
end Go.Proofs.Ytlfdimhnielleaa.M
