/- Sets as ascending lists: a number taken away or put in, in the specification. -/
import Derived.Test.YtlfdimhnielleaaKpQVPolygonSpace
import Derived.Test.YtlfdimhnielleaaQgVPolygonSpace
import Derived.Test.YtlfdimhnielleaaDeQVPolygonSpace
namespace Go.Proofs.Ytlfdimhnielleaa.M
open Go.RowKit Abs
set_option linter.unusedSimpArgs false
set_option linter.unusedVariables false
set_option maxRecDepth 100000
set_option maxHeartbeats 4000000
/-- Where a number is put in. -/
def kOf (s : List Int) (x : Int) : Int := if findI s (fun v => !decide (v < x)) < 0 then s.length else findI s fun v => !decide (v < x)
def putI (s : List Int) (x : Int) : List Int := s.take (kOf s x).toNat ++ [x] ++ s.drop (kOf s x).toNat
def outX (x v : Int) : Bool := !decide (v = x)
/-- A set with a number turned. -/
def turnL (s : List Int) (x : Int) : List Int := if hasB s x = true then s.filter (outX x) else putI s x
end Go.Proofs.Ytlfdimhnielleaa.M
