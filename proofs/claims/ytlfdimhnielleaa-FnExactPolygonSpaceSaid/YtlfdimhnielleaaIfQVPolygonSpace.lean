/- Formulas: the laws' helpers; whether one is valid, on both sides. -/
import Derived.Test.YtlfdimhnielleaaLrQVPolygonSpace
import Derived.Test.YtlfdimhnielleaaCtQVPolygonSpace
import Derived.Test.YtlfdimhnielleaaQgVPolygonSpace
namespace Go.Proofs.Ytlfdimhnielleaa.M
open Go.RowKit Abs
set_option linter.unusedSimpArgs false
set_option linter.unusedVariables false
set_option maxRecDepth 100000
set_option maxHeartbeats 4000000
/-- Rows of which one is as told. -/
def findR (l : List (List Int)) (q : List Int → Bool) : Int := match l.findIdx? q with | some i => i | none => -1
def varOf (x : Int) : Int := if 0 < x then x - 1 else -1 - x
def otherB (n x : Int) : Bool := outI n (varOf x)
def clauseB (n : Int) (r : List Int) : Bool := incB r && !r.any (otherB n)
def badC (n : Int) (r : List Int) : Bool := !clauseB n r
def formOk (n : Int) (L : List (List Int)) : Bool := ((decide (0 ≤ n) && decide (n ≤ 6)) && decide ((L.length : Int) ≤ 64)) && !L.any (badC n)
end Go.Proofs.Ytlfdimhnielleaa.M
