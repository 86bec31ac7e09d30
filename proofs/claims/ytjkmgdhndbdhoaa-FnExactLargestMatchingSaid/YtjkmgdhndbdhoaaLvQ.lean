/- A list of numbers is copied. -/
import Derived.Test.YtjkmgdhndbdhoaaQg
import Derived.Test.YtjkmgdhndbdhoaaQe
namespace Go.Proofs.Ytjkmgdhndbdhoaa.M
open Go.RowKit Abs
set_option linter.unusedSimpArgs false
set_option linter.unusedVariables false
set_option maxRecDepth 100000
set_option maxHeartbeats 4000000
theorem copy_set {l : List Int} {k : Int} (h0 : 0 ≤ k) (h1 : k < (l.length : Int)) : setI (l.take k.toNat ++ List.replicate (l.length - k.toNat) 0) k (getI .int l k) = l.take (k + 1).toNat ++ List.replicate (l.length - (k + 1).toNat) 0 := by
  rw [take_getI (t := .int) h0 h1]
  have e : l.length - k.toNat = (l.length - (k + 1).toNat) + 1 := by omega
  rw [e, List.replicate_succ]
  unfold setI
  rw [List.set_append_right _ _ (by rw [List.length_take]; omega)]
  have e2 : k.toNat - (l.take k.toNat).length = 0 := by rw [List.length_take]; omega
  rw [e2, List.set_cons_zero, List.append_assoc]
  rfl
end Go.Proofs.Ytjkmgdhndbdhoaa.M
