/- missing: what a list has that another one has not, in the program. -/
import Derived.Test.YtlfdimhnielleaaDlQVPolygonSpace
import Derived.Test.YtlfdimhnielleaaOlQVPolygonSpace
import Derived.Test.YtlfdimhnielleaaGlQVPolygonSpace
import Derived.Test.YtlfdimhnielleaaQgVPolygonSpace
namespace Go.Proofs.Ytlfdimhnielleaa.M
open Go.RowKit Abs
set_option linter.unusedSimpArgs false
set_option linter.unusedVariables false
set_option maxRecDepth 100000
set_option maxHeartbeats 4000000
end Go.Proofs.Ytlfdimhnielleaa.M
