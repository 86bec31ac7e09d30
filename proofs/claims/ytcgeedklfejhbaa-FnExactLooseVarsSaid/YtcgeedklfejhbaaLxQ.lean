/- The literal that is met if a variable has a number. -/
import Derived.Test.YtcgeedklfejhbaaIgQ
import Derived.Test.YtcgeedklfejhbaaQc
namespace Go.Proofs.Ytcgeedklfejhbaa.M
open Go.RowKit Abs
set_option linter.unusedSimpArgs false
set_option linter.unusedVariables false
set_option maxRecDepth 100000
set_option maxHeartbeats 4000000
def litF (v b : Int) : Int := if b = 1 then v + 1 else -1 - v
theorem im_lit (v b : Int) (h0 : 0 ≤ v) (h1 : v < 1000) : Spec2 Try.prog 118 [.int fun _ => v, .int fun _ => b] [] [.int fun _ => litF v b] [] := by
  have h9 : litF v b = _ := rfl
  conv at h9 => rhs; unfold litF
  refine fnS [] [4] Try.func118 rfl (by decide) rfl (by decide) (by kernel_rfl) rfl (by simp [Try.ntmps118]) ?_
  cbv
  ((try simp only [IfP_iff, and_true, true_and, decide_eq_true_eq, decide_eq_false_iff_not]); (try simp only [natc, getI_gi, at2_0, at2_1]); (try dsimp only [Ty.den]); (try simp only [natc] at *); (repeat' (first | apply And.intro | intro _)))
  all_goals (try (simp only [IfP_iff, EqU_iff, Obl_iff, and_true, true_and, inI_iff, decide_eq_true_eq, decide_eq_false_iff_not]; (try simp only [natc, getI_gi, at2_0, at2_1]); (try dsimp only [Ty.den]); try simp only [natc] at *))
  all_goals ((repeat' (first | apply And.intro | intro _)) <;> first | omega | (simp only [List.length_append, List.length_cons, List.length_nil]; omega) | grind)
end Go.Proofs.Ytcgeedklfejhbaa.M
