/- CommonDiagonals, FanOf: both sides. -/
import Derived.Test.YtjkmgdhndbdhoaaDkQ
import Derived.Test.YtjkmgdhndbdhoaaQg
namespace Go.Proofs.Ytjkmgdhndbdhoaa.M
open Go.RowKit Abs
set_option linter.unusedSimpArgs false
set_option linter.unusedVariables false
set_option maxRecDepth 100000
set_option maxHeartbeats 4000000
def commR (n : Int) (a b : List Int) : List Int := if vv n a b = true then a.filter (hasB b) else []
theorem only_only (a b : List Int) : onlyL a (onlyL a b) = a.filter (hasB b) := by
  unfold onlyL
  refine List.filter_congr fun x hx => ?_
  rw [Bool.eq_iff_iff]
  simp only [Bool.not_eq_true', ← Bool.not_eq_true, hasB_iff, List.mem_filter]
  constructor
  · intro h
    exact Classical.byContradiction fun h2 => h ⟨hx, h2⟩
  · intro h h2
    exact h2.2 h
def fanV (n c : Int) : Bool := polyB n && (decide (0 ≤ c) && decide (c < n))
def fanL (n c : Int) : List Int := (diagL n).filter fun x => atB x c
def fanR (n c : Int) : List Int := if fanV n c = true then fanL n c else []
theorem fan_all (n c : Int) : ((diagL n).filter fun x => !(!atB x c)) = fanL n c := by
  unfold fanL
  simp
end Go.Proofs.Ytjkmgdhndbdhoaa.M
