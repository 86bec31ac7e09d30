/- The law FnExactCountTriangulations. -/
import Derived.Test.YtbpheblbbdiapaaEhQ
import Derived.Test.YtbpheblbbdiapaaQe
namespace Go.Proofs.Ytbpheblbbdiapaa.M
open Go.RowKit Abs
set_option linter.unusedSimpArgs false
set_option linter.unusedVariables false
set_option maxRecDepth 100000
set_option maxHeartbeats 4000000
set_option maxHeartbeats 8000000
theorem law2_CountTriangulations (v0 : Int)  : Spec2 Try.prog 11 [.int fun _ => v0] [] [.bool fun _ => true] [] := by
  obtain ⟨x0, b1, s1, s2⟩ : ∃ (x0 : Int) (b1 : Bool), Spec2 Try.prog 33 [.int fun _ => v0] [] [.int fun _ => x0, .bool fun _ => b1] [] ∧ Spec2 Try.prog 34 [.int fun _ => v0] [] [.int fun _ => x0, .bool fun _ => b1] [] := ⟨_, _, sp_countTri v0, im_countTri v0⟩
  refine fnS [] [2] Try.func11 rfl (by decide) rfl (by decide) (by kernel_rfl) rfl (by simp [Try.ntmps11]) ?_
  cbv
  ((try simp only [IfP_iff, and_true, true_and, decide_eq_true_eq, decide_eq_false_iff_not]); (try simp only [natc, at2_0, at2_1]); (try dsimp only [Ty.den]); (try simp only [natc] at *); (repeat' (first | apply And.intro | intro _)))
  all_goals (repeat' (first | ((first | refine call_q s1 (by cbv) ?_ | refine call_pure s1 (by cbv) ?_); cbv; ((try simp only [IfP_iff, and_true, true_and, decide_eq_true_eq, decide_eq_false_iff_not]); (try simp only [natc, at2_0, at2_1]); (try dsimp only [Ty.den]); (try simp only [natc] at *); (repeat' (first | apply And.intro | intro _)))) | ((first | refine call_q s2 (by cbv) ?_ | refine call_pure s2 (by cbv) ?_); cbv; ((try simp only [IfP_iff, and_true, true_and, decide_eq_true_eq, decide_eq_false_iff_not]); (try simp only [natc, at2_0, at2_1]); (try dsimp only [Ty.den]); (try simp only [natc] at *); (repeat' (first | apply And.intro | intro _))))))
  all_goals (try (simp only [IfP_iff, EqU_iff, Obl_iff, and_true, true_and, inI_iff, decide_eq_true_eq, decide_eq_false_iff_not]; (try simp only [natc, at2_0, at2_1]); (try dsimp only [Ty.den]); try simp only [natc] at *))
  all_goals ((repeat' (first | apply And.intro | intro _)) <;> first | omega | (simp only [List.length_append, List.length_cons, List.length_nil]; omega) | grind | (simp at *; done))
end Go.Proofs.Ytbpheblbbdiapaa.M
namespace Go.Proofs.Ytbpheblbbdiapaa.Abs
theorem law_FnExactCountTriangulations (v0 : Int) : Spec Try.prog 11 [.int v0] [.im .bool true] := by
  exact M.toSpec (M.law2_CountTriangulations v0 ) M.rBool
end Go.Proofs.Ytbpheblbbdiapaa.Abs
namespace Go.Proofs.Ytbpheblbbdiapaa.M
end Go.Proofs.Ytbpheblbbdiapaa.M
