/- Bounds of the results of CommonDiagonals and FanOf. -/
import Derived.Test.YtbpheblbbdiapaaEaQ
import Derived.Test.YtbpheblbbdiapaaQg
namespace Go.Proofs.Ytbpheblbbdiapaa.M
open Go.RowKit Abs
set_option linter.unusedSimpArgs false
set_option linter.unusedVariables false
set_option maxRecDepth 100000
set_option maxHeartbeats 4000000
theorem common_le (n : Int) (a b : List Int) (ha : a.length ≤ 1048576) (hb : b.length ≤ 1048576) : (commR n a b).length ≤ 1048576 := by
  unfold commR
  split
  · exact Nat.le_trans (List.length_filter_le _ _) ha
  · simp
theorem fan_le (n c : Int) : (fanR n c).length ≤ 1048576 := by
  unfold fanR
  split
  · rename_i h
    unfold fanV polyB at h
    simp only [Bool.and_eq_true, decide_eq_true_eq] at h
    have := diag_len (n := n) (by omega) h.1.2
    unfold fanL
    exact Nat.le_trans (List.length_filter_le _ _) (by omega)
  · simp
end Go.Proofs.Ytbpheblbbdiapaa.M
