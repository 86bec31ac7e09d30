/- Whether an assignment meets a Formula: the program. -/
import Derived.Test.YtoejmijcikehdaaAsQ
import Derived.Test.YtoejmijcikehdaaLxQ
import Derived.Test.YtoejmijcikehdaaSbQ
import Derived.Test.YtoejmijcikehdaaQg
namespace Go.Proofs.Ytoejmijcikehdaa.M
open Go.RowKit Abs
set_option linter.unusedSimpArgs false
set_option linter.unusedVariables false
set_option maxRecDepth 100000
set_option maxHeartbeats 4000000
def meetB (l : List Int) (x : Int) : Bool := if 0 < x then decide (gi l (x - 1) = 1) else !decide (gi l (-1 - x) = 1)
def litsIn (c : List Int) : Prop := ∀ x ∈ c, inI x ∧ 0 ≤ varOf x ∧ varOf x < 6
def notMet (l c : List Int) : Bool := !c.any (meetB l)
end Go.Proofs.Ytoejmijcikehdaa.M
