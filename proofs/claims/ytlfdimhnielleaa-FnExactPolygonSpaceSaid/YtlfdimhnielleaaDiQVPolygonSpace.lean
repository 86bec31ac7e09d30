/- Valid triangulations: several at once in the program, one in the specification. -/
import Derived.Test.YtlfdimhnielleaaDhQVPolygonSpace
import Derived.Test.YtlfdimhnielleaaIfQVPolygonSpace
import Derived.Test.YtlfdimhnielleaaQgVPolygonSpace
namespace Go.Proofs.Ytlfdimhnielleaa.M
open Go.RowKit Abs
set_option linter.unusedSimpArgs false
set_option linter.unusedVariables false
set_option maxRecDepth 100000
set_option maxHeartbeats 4000000
def vv (n : Int) (a b : List Int) : Bool := triV n a && triV n b
end Go.Proofs.Ytlfdimhnielleaa.M
