/- Sets of nodes as binary digits; the nodes that are not in a set, on both sides. -/
import Derived.Test.YtlfdimhnielleaaCtQVPolygonSpace
import Derived.Test.YtlfdimhnielleaaPfQVPolygonSpace
import Derived.Test.YtlfdimhnielleaaHsQVPolygonSpace
namespace Go.Proofs.Ytlfdimhnielleaa.M
open Go.RowKit Abs
set_option linter.unusedSimpArgs false
set_option linter.unusedVariables false
set_option maxRecDepth 100000
set_option maxHeartbeats 4000000
def bitB (a v : Int) : Bool := a.toNat.testBit v.toNat
def nset (s : List Int) : Int := s.foldl (fun a x => bor a (1 * 2 ^ (min x.toNat 64))) 0
end Go.Proofs.Ytlfdimhnielleaa.M
