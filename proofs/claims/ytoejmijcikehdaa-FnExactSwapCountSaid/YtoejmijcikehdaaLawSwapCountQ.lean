/- The law FnExactSwapCount. -/
import Derived.Test.YtoejmijcikehdaaVfQ
import Derived.Test.YtoejmijcikehdaaQe
import Derived.Test.YtoejmijcikehdaaLvQ
namespace Go.Proofs.Ytoejmijcikehdaa.M
open Go.RowKit Abs
set_option linter.unusedSimpArgs false
set_option linter.unusedVariables false
set_option maxRecDepth 100000
set_option maxHeartbeats 4000000
set_option maxHeartbeats 8000000
theorem law2_SwapCount (u0 : List Int) (hu0 : u0.length ≤ 1048576) : Spec2 Try.prog 5 [.sl .int fun _ => u0] [] [.bool fun _ => true] [] := by
  obtain ⟨x0, b1, s1, s2⟩ : ∃ (x0 : Int) (b1 : Bool), Spec2 Try.prog 19 [.sl .int fun _ => u0] [] [.int fun _ => x0, .bool fun _ => b1] [] ∧ Spec2 Try.prog 20 [.sl .int fun _ => u0] [] [.int fun _ => x0, .bool fun _ => b1] [] := ⟨_, _, sp_swapCount u0 hu0, im_swapCount u0 hu0⟩
  refine fnS [] [2] Try.func5 rfl (by decide) rfl (by decide) (by kernel_rfl) rfl (by simp [Try.ntmps5]) ?_
  cbv
  ((try simp only [IfP_iff, and_true, true_and, decide_eq_true_eq, decide_eq_false_iff_not]); (try simp only [natc, at2_0, at2_1]); (try dsimp only [Ty.den]); (try simp only [natc] at *); (repeat' (first | apply And.intro | intro _)))
  all_goals (repeat' (first | ((first | refine call_q (la_toInts u0 hu0) (by cbv) ?_ | refine call_pure (la_toInts u0 hu0) (by cbv) ?_); cbv; ((try simp only [IfP_iff, and_true, true_and, decide_eq_true_eq, decide_eq_false_iff_not]); (try simp only [natc, at2_0, at2_1]); (try dsimp only [Ty.den]); (try simp only [natc] at *); (repeat' (first | apply And.intro | intro _)))) | ((first | refine call_q (la_same u0 hu0) (by cbv) ?_ | refine call_pure (la_same u0 hu0) (by cbv) ?_); cbv; ((try simp only [IfP_iff, and_true, true_and, decide_eq_true_eq, decide_eq_false_iff_not]); (try simp only [natc, at2_0, at2_1]); (try dsimp only [Ty.den]); (try simp only [natc] at *); (repeat' (first | apply And.intro | intro _)))) | ((first | refine call_q s1 (by cbv) ?_ | refine call_pure s1 (by cbv) ?_); cbv; ((try simp only [IfP_iff, and_true, true_and, decide_eq_true_eq, decide_eq_false_iff_not]); (try simp only [natc, at2_0, at2_1]); (try dsimp only [Ty.den]); (try simp only [natc] at *); (repeat' (first | apply And.intro | intro _)))) | ((first | refine call_q s2 (by cbv) ?_ | refine call_pure s2 (by cbv) ?_); cbv; ((try simp only [IfP_iff, and_true, true_and, decide_eq_true_eq, decide_eq_false_iff_not]); (try simp only [natc, at2_0, at2_1]); (try dsimp only [Ty.den]); (try simp only [natc] at *); (repeat' (first | apply And.intro | intro _))))))
  all_goals (try (simp only [IfP_iff, EqU_iff, Obl_iff, and_true, true_and, inI_iff, decide_eq_true_eq, decide_eq_false_iff_not]; (try simp only [natc, at2_0, at2_1]); (try dsimp only [Ty.den]); try simp only [natc] at *))
  all_goals ((repeat' (first | apply And.intro | intro _)) <;> first | omega | (simp only [List.length_append, List.length_cons, List.length_nil]; omega) | grind | (simp at *; done))
theorem law2_SwapCount_bigu0 (u0 : List Int) (hb : ¬ u0.length ≤ 1048576) : Spec2 Try.prog 5 [.sl .int fun _ => u0] [] [.bool fun _ => true] [] := by
  refine fnS [] [2] Try.func5 rfl (by decide) rfl (by decide) (by kernel_rfl) rfl (by simp [Try.ntmps5]) ?_
  cbv
  ((try simp only [IfP_iff, and_true, true_and, decide_eq_true_eq, decide_eq_false_iff_not]); (try simp only [natc, at2_0, at2_1]); (try dsimp only [Ty.den]); (try simp only [natc] at *); (repeat' (first | apply And.intro | intro _)))
  skip
  all_goals (try (simp only [IfP_iff, EqU_iff, Obl_iff, and_true, true_and, inI_iff, decide_eq_true_eq, decide_eq_false_iff_not]; (try simp only [natc, at2_0, at2_1]); (try dsimp only [Ty.den]); try simp only [natc] at *))
  all_goals ((repeat' (first | apply And.intro | intro _)) <;> first | omega | (simp only [List.length_append, List.length_cons, List.length_nil]; omega) | grind)
end Go.Proofs.Ytoejmijcikehdaa.M
namespace Go.Proofs.Ytoejmijcikehdaa.Abs
theorem law_FnExactSwapCount (u0 : List Int) : Spec Try.prog 5 [.sl .int u0] [.im .bool true] := by
  by_cases qu0 : u0.length ≤ 1048576
  case neg => exact M.toSpec (M.law2_SwapCount_bigu0 u0 qu0) M.rBool
  exact M.toSpec (M.law2_SwapCount u0 qu0) M.rBool
end Go.Proofs.Ytoejmijcikehdaa.Abs
namespace Go.Proofs.Ytoejmijcikehdaa.M
end Go.Proofs.Ytoejmijcikehdaa.M
