/- slices.Clone of numbers. -/
import Derived.Test.YtlfdimhnielleaaQeVPolygonSpace
import Derived.Test.YtlfdimhnielleaaShelf
import Derived.Test.YtlfdimhnielleaaQgVPolygonSpace
namespace Go.Proofs.Ytlfdimhnielleaa.M
open Go.RowKit Abs
set_option linter.unusedSimpArgs false
set_option linter.unusedVariables false
set_option maxRecDepth 100000
set_option maxHeartbeats 4000000
end Go.Proofs.Ytlfdimhnielleaa.M
