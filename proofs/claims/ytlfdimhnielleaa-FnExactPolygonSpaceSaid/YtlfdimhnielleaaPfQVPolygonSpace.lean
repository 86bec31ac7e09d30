/- The numbers below k that fulfil p, in ascending order; marks in a row of truth values (pure). -/
import Derived.Test.YtlfdimhnielleaaQgVPolygonSpace
namespace Go.Proofs.Ytlfdimhnielleaa.M
open Go.RowKit Abs
set_option linter.unusedSimpArgs false
set_option linter.unusedVariables false
set_option maxRecDepth 100000
set_option maxHeartbeats 4000000
def pref (p : Int → Bool) (k : Nat) : List Int := ((List.range k).map Int.ofNat).filter p
def gb (s : List Bool) (i : Int) : Bool := s.getD i.toNat false
/-- Where p is so, too, it is marked. -/
def markP (p : Int → Bool) (s : List Bool) : List Bool := (List.range s.length).map fun j => s.getD j false || p j
end Go.Proofs.Ytlfdimhnielleaa.M
