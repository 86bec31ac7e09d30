/- EarsOf: both sides. -/
import Derived.Test.YtlfdimhnielleaaEaQVPolygonSpace
import Derived.Test.YtlfdimhnielleaaPfQVPolygonSpace
import Derived.Test.YtlfdimhnielleaaQgVPolygonSpace
namespace Go.Proofs.Ytlfdimhnielleaa.M
open Go.RowKit Abs
set_option linter.unusedSimpArgs false
set_option linter.unusedVariables false
set_option maxRecDepth 100000
set_option maxHeartbeats 4000000
def someAt (l : List Int) (c : Int) : Bool := l.any fun x => atB x c
def earL (n : Int) (l : List Int) : List Int := pref (fun c => !someAt l c) n.toNat
def earR (n : Int) (l : List Int) : List Int := if triV n l = true then earL n l else []
def atN (l : List Int) (c : Int) : Int := cntB l (fun x => atB x c) l.length
end Go.Proofs.Ytlfdimhnielleaa.M
