/- CutOf: how long. -/
import Derived.Test.YtbpheblbbdiapabTiQVCutOf
import Derived.Test.YtbpheblbbdiapabQgVCutOf
namespace Go.Proofs.Ytbpheblbbdiapab.M
open Go.RowKit Abs
set_option linter.unusedSimpArgs false
set_option linter.unusedVariables false
set_option maxRecDepth 100000
set_option maxHeartbeats 4000000
theorem cutR_len (n : Int) (l : List (Int × Int)) (es : List Int) (d : Int) (hl : l.length ≤ 1048576) : (cutR n l es d).length ≤ 1048576 := by
  unfold cutR
  split
  · have := pref_len (p := crB (cutD n l es d) l) (k := (l.length : Int)) (by omega)
    rw [Int.toNat_natCast] at this
    omega
  · simp
end Go.Proofs.Ytbpheblbbdiapab.M
