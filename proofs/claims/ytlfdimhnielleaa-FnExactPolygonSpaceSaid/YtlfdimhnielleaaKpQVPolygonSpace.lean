/- Kinds of sets of nodes (pure): digits against lists. -/
import Derived.Test.YtlfdimhnielleaaOsQVPolygonSpace
import Derived.Test.YtlfdimhnielleaaQeVPolygonSpace
import Derived.Test.YtlfdimhnielleaaQgVPolygonSpace
namespace Go.Proofs.Ytlfdimhnielleaa.M
open Go.RowKit Abs
set_option linter.unusedSimpArgs false
set_option linter.unusedVariables false
set_option maxRecDepth 100000
set_option maxHeartbeats 4000000
/-- What a kind asks of a node. -/
def kindX (l : List (Int × Int)) (kind : Int) (p : Int → Bool) (x : Int) : Bool :=
  if kind = 1 then p x || allI 8 fun y => !(nearB l y x && !p y)
  else if kind = 2 then !p x || allI 8 fun y => !((p y != decide (y = x)) && !nearB l y x)
  else p x || !(allI 8 fun y => !(nearB l y x && p y))
def kindP (n : Int) (l : List (Int × Int)) (kind : Int) (p : Int → Bool) : Bool := allI n.toNat (kindX l kind p)
def flipP (p : Int → Bool) (x y : Int) : Bool := p y != decide (y = x)
/-- The sets of neighbors. -/
def nearS (n : Int) (l : List (Int × Int)) : List Int := (nearR l n).map nset
def allowsB (kind : Int) (R : List Int) (m x : Int) : Bool :=
  if kind = 1 then bitB m x || decide (bandn (getI .u64 R x) m = 0)
  else if kind = 2 then !bitB m x || decide (bandn (bxor m (1 * 2 ^ (min x.toNat 64))) (getI .u64 R x) = 0)
  else bitB m x || !decide (band (getI .u64 R x) m = 0)
def holdsK (kind : Int) (R : List Int) (m : Int) : Bool := allI R.length (allowsB kind R m)
/-- The kinds, as the specification asks for them. -/
def covB (l : List (Int × Int)) (s : List Int) (i : Int) : Bool := hasB s (getI (.pr .int .int) l i).1 || hasB s (getI (.pr .int .int) l i).2
def cliX (l : List (Int × Int)) (s : List Int) (i k : Int) : Bool := nearB l (gi s i) (gi s k)
def cliB (l : List (Int × Int)) (s : List Int) (i : Int) : Bool := allI i.toNat (cliX l s i)
def domB (l : List (Int × Int)) (s : List Int) (x : Int) : Bool := hasB s x || s.any fun v => nearB l v x
def hasK (n : Int) (l : List (Int × Int)) (kind : Int) (s : List Int) : Bool := if kind = 1 then allI l.length (covB l s) else if kind = 2 then allI s.length (cliB l s) else allI n.toNat (domB l s)
end Go.Proofs.Ytlfdimhnielleaa.M
