/- CommonDiagonals, FanOf: both sides. -/
import Derived.Test.YtlfdimhnielleaaDkQVPolygonSpace
import Derived.Test.YtlfdimhnielleaaQgVPolygonSpace
namespace Go.Proofs.Ytlfdimhnielleaa.M
open Go.RowKit Abs
set_option linter.unusedSimpArgs false
set_option linter.unusedVariables false
set_option maxRecDepth 100000
set_option maxHeartbeats 4000000
def commR (n : Int) (a b : List Int) : List Int := if vv n a b = true then a.filter (hasB b) else []
def fanV (n c : Int) : Bool := polyB n && (decide (0 ≤ c) && decide (c < n))
def fanL (n c : Int) : List Int := (diagL n).filter fun x => atB x c
def fanR (n c : Int) : List Int := if fanV n c = true then fanL n c else []
end Go.Proofs.Ytlfdimhnielleaa.M
