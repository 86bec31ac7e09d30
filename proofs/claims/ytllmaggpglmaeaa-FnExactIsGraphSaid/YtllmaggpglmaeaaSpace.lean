/- Spaces: the walks of the laws' helpers over them. -/
import Derived.Test.YtllmaggpglmaeaaGraph
import Derived.Test.YtllmaggpglmaeaaGridCopy
namespace Go.Proofs.Ytllmaggpglmaeaa
open Go.RowKit
set_option linter.unusedVariables false

abbrev spaceV (s e : Value) : Value := .agg #[s, e]
def SzSpace (l : List (List Int)) (m : Nat) (left : Int) (w : World) (e : Ending) (w' : World) : Prop := ∃ r : Int, e = .returned (.int .i64 r) ∧ (r = -1 ∨ (0 ≤ r ∧ r + l.length + totI l + m = left)) ∧ Below w.heap.size w w'
end Go.Proofs.Ytllmaggpglmaeaa