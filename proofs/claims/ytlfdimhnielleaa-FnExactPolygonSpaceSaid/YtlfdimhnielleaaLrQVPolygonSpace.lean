/- Rows of rows, and Formulas: the helpers of the laws. -/
import Derived.Test.YtlfdimhnielleaaQeVPolygonSpace
import Derived.Test.YtlfdimhnielleaaLvQVPolygonSpace
import Derived.Test.YtlfdimhnielleaaRgQVPolygonSpace
namespace Go.Proofs.Ytlfdimhnielleaa.M
open Go.RowKit Abs
set_option linter.unusedSimpArgs false
set_option linter.unusedVariables false
set_option maxRecDepth 100000
set_option maxHeartbeats 4000000
/-- What is left behind rows. -/
def rowsLeft : List (List Int) → Int → Int
  | [], k => k
  | r :: L, k => if (r.length : Int) ≤ k then rowsLeft L (k - r.length) else -1
def sizeL (L : List (List Int)) (k : Int) : Int := if (L.length : Int) ≤ k then rowsLeft L (k - L.length) else -1
end Go.Proofs.Ytlfdimhnielleaa.M
