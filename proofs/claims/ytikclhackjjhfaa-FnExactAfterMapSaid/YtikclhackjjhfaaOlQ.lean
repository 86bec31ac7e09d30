/- What a list has that another one has not (pure). -/
import Derived.Test.YtikclhackjjhfaaHsQ
import Derived.Test.YtikclhackjjhfaaQg
namespace Go.Proofs.Ytikclhackjjhfaa.M
open Go.RowKit Abs
set_option linter.unusedSimpArgs false
set_option linter.unusedVariables false
set_option maxRecDepth 100000
set_option maxHeartbeats 4000000
def onlyL (a b : List Int) : List Int := a.filter fun x => !hasB b x
theorem only_next {a b : List Int} {k : Int} (h0 : 0 ≤ k) (h1 : k < (a.length : Int)) : onlyL (a.take (k + 1).toNat) b = onlyL (a.take k.toNat) b ++ if hasB b (gi a k) = true then [] else [gi a k] := by
  unfold onlyL
  rw [take_gi h0 h1, List.filter_append]
  congr 1
  by_cases h : hasB b (gi a k) = true
  · rw [List.filter_cons_of_neg (by simp [h]), if_pos h]; rfl
  · rw [List.filter_cons_of_pos (by simp [h]), if_neg h]; rfl
theorem only_len {a b : List Int} {k : Int} : (onlyL (a.take k.toNat) b).length ≤ a.length := by
  unfold onlyL
  exact Nat.le_trans (List.length_filter_le _ _) (by rw [List.length_take]; omega)
end Go.Proofs.Ytikclhackjjhfaa.M
