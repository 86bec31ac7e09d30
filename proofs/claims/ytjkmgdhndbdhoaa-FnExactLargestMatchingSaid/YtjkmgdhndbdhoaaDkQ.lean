/- CrossingsOf: the specification. -/
import Derived.Test.YtjkmgdhndbdhoaaDjQ
import Derived.Test.YtjkmgdhndbdhoaaQg
namespace Go.Proofs.Ytjkmgdhndbdhoaa.M
open Go.RowKit Abs
set_option linter.unusedSimpArgs false
set_option linter.unusedVariables false
set_option maxRecDepth 100000
set_option maxHeartbeats 4000000
theorem two_valid {n : Int} {a b : List Int} (h : vv n a b = false) (ha : (!triV n a) = false) (hb : (!triV n b) = false) : False := by
  unfold vv at h
  rw [show triV n a = true by simpa using ha, show triV n b = true by simpa using hb] at h
  cases h
end Go.Proofs.Ytjkmgdhndbdhoaa.M
