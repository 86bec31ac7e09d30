/- Diagonals: the program's and the specification's functions of numbers. -/
import Derived.Test.YtjkmgdhndbdhoaaDaQ
import Derived.Test.YtjkmgdhndbdhoaaLpQ
import Derived.Test.YtjkmgdhndbdhoaaQg
namespace Go.Proofs.Ytjkmgdhndbdhoaa.M
open Go.RowKit Abs
set_option linter.unusedSimpArgs false
set_option linter.unusedVariables false
set_option maxRecDepth 100000
set_option maxHeartbeats 4000000
theorem td_in {x : Int} (h0 : 0 ≤ x) (h1 : x < 100) : 0 ≤ x.tdiv 10 ∧ x.tdiv 10 ≤ 9 := by
  rw [Int.tdiv_eq_ediv_of_nonneg h0]; omega
theorem tm_in {x : Int} (h0 : 0 ≤ x) : 0 ≤ x.tmod 10 ∧ x.tmod 10 ≤ 9 := by
  rw [Int.tmod_eq_emod_of_nonneg h0]; omega
def atB (x c : Int) : Bool := decide (x.tdiv 10 = c) || decide (x.tmod 10 = c)
end Go.Proofs.Ytjkmgdhndbdhoaa.M
