/- Assignments: a struct of a number and an array of numbers, in the program. -/
import Derived.Test.YtoejmijcikehdaaRgQ
import Derived.Test.YtoejmijcikehdaaIgQ
import Derived.Test.YtoejmijcikehdaaQg
namespace Go.Proofs.Ytoejmijcikehdaa.M
open Go.RowKit Abs
set_option linter.unusedSimpArgs false
set_option linter.unusedVariables false
set_option maxRecDepth 100000
set_option maxHeartbeats 4000000
def padN (r : List Int) : List Int := r ++ List.replicate (6 - r.length) 0
def bitsB (r : List Int) : Bool := !r.any (outI 2)
def asgB (n : Int) (r : List Int) : Bool := decide ((r.length : Int) = n) && decide (n ≤ 6) && bitsB r
def asgV (n : Int) (r : List Int) : Int × List Int := if asgB n r = true then (n, padN r) else (0, List.replicate 6 0)
theorem asgB_in {n : Int} {r : List Int} (h : asgB n r = true) : (r.length : Int) = n ∧ n ≤ 6 ∧ ∀ x ∈ r, x = 0 ∨ x = 1 := by
  unfold asgB bitsB at h
  simp only [Bool.and_eq_true, decide_eq_true_eq, Bool.not_eq_true', List.any_eq_false] at h
  refine ⟨h.1.1, h.1.2, fun x hx => ?_⟩
  have := h.2 x hx
  unfold outI at this
  simp only [Bool.not_eq_true', Bool.and_eq_false_iff, decide_eq_false_iff_not, not_or, Decidable.not_not] at this
  omega
theorem padN_len {r : List Int} (h : r.length ≤ 6) : (padN r).length = 6 := by
  unfold padN
  rw [List.length_append, List.length_replicate]
  omega
theorem pad_copy {n : Int} {r : List Int} (h : r.length ≤ 6) : cpy (n :: List.replicate 6 0) r 1 (1 + 6) = n :: padN r := by
  unfold cpy padN
  have e : (List.take ((1 : Int) + 6 - 1).toNat r) = r := List.take_of_length_le (by show r.length ≤ 6; exact h)
  rw [e]
  show [n] ++ r ++ List.drop (min (1 + r.length) 7) (n :: List.replicate 6 0) = _
  rw [show min (1 + r.length) 7 = r.length + 1 by omega, List.drop_succ_cons, List.drop_replicate]
  rfl
end Go.Proofs.Ytoejmijcikehdaa.M
