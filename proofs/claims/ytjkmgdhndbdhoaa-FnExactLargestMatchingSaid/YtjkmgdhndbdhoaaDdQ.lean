/- What fits to a list: the program's search, and its test; triangulations on both sides. -/
import Derived.Test.YtjkmgdhndbdhoaaDcQ
import Derived.Test.YtjkmgdhndbdhoaaSjQ
import Derived.Test.YtjkmgdhndbdhoaaQg
namespace Go.Proofs.Ytjkmgdhndbdhoaa.M
open Go.RowKit Abs
set_option linter.unusedSimpArgs false
set_option linter.unusedVariables false
set_option maxRecDepth 100000
set_option maxHeartbeats 4000000
theorem diag_in {n : Int} (h0 : 3 ≤ n) (h1 : n ≤ 8) : ∀ x ∈ diagL n, 0 ≤ x ∧ x < 100 := by
  have h : n = 3 ∨ n = 4 ∨ n = 5 ∨ n = 6 ∨ n = 7 ∨ n = 8 := by omega
  rcases h with rfl | rfl | rfl | rfl | rfl | rfl <;> decide
theorem fit_next {nums l : List Int} {ex : Int → Int → Bool} {k : Int} (h0 : 0 ≤ k) (h1 : k < (nums.length : Int)) : fitL (nums.take (k + 1).toNat) ex l = fitL (nums.take k.toNat) ex l ++ if l.all (fun y => !(decide (y = gi nums k) || ex y (gi nums k))) = true then [gi nums k] else [] := by
  unfold fitL
  rw [take_gi h0 h1, List.filter_append]
  by_cases h : l.all (fun y => !(decide (y = gi nums k) || ex y (gi nums k))) = true
  · rw [if_pos h, List.filter_cons, if_pos h]; rfl
  · rw [if_neg h, List.filter_cons, if_neg h]; rfl
theorem fit_len (nums l : List Int) (ex : Int → Int → Bool) : (fitL nums ex l).length ≤ nums.length := List.length_filter_le _ _
/-- None of the first k numbers excludes x. -/
def offB (ex : Int → Int → Bool) (l : List Int) (x : Int) (k : Nat) : Bool := (l.take k).all fun y => !(decide (y = x) || ex y x)
end Go.Proofs.Ytjkmgdhndbdhoaa.M
